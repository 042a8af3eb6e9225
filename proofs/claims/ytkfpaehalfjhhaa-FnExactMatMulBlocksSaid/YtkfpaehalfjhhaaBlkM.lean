/-
  The model's product of tensors by blocks. Conditions: the numbers can be read.
-/
import Derived.Test.YtkfpaehalfjhhaaBlk
import Derived.BigRegion
namespace Go.Proofs.Ytkfpaehalfjhhaa
open Go.RowKit Go.Deep Go.WideShapes Go.ChangeShapes

theorem part_getD {xs : List Nat} {F B k : Nat} (h : k < B) : ((xs.drop F).take B).getD k 0 = xs.getD (F + k) 0 := by
  simp [List.getD, h, List.getElem?_drop]
theorem part_length {xs : List Nat} {F B n : Nat} (h : xs.length = n) : ((xs.drop F).take B).length = min B (n - F) := by subst h; simp
def InBlkRel (X Y : List Nat) (F L : Nat) (wo : World) (s j : Value) (wr : World) : Prop :=
  ∃ (k r m J : Nat), F + k = J ∧ k ≤ L ∧ j = .int .i64 J ∧ s = .float .f32 r ∧ canon .f32 r = cdot (X.take k) (Y.take k) ∧ r < 2 ^ 32 ∧ wr = wo.drewN m
set_option maxRecDepth 20000 in
set_option maxHeartbeats 4000000 in
theorem c_l02Blocks (g g' : Nat) (R M K : Nat) (a a' : Option Addr) (n n' cap cap' : Nat) (za zb : List Nat) (w : World) (h : IsFloats .f32 w a n cap za) (h' : IsFloats .f32 w a' n' cap' zb) (r1 : 1 ≤ R) (r2 : R ≤ 16) (m1 : 1 ≤ M) (m2 : M ≤ 16) (k1 : 1 ≤ K) (k2 : K ≤ 16) (hn : n = R * M) (hn' : n' = M * K)
    (h0 : w.cell? ⟨g, 0, none⟩ = some (.int .i64 R)) (h1 : w.cell? ⟨g, 1, none⟩ = some (.int .i64 M)) (h2 : w.cell? ⟨g, 2, none⟩ = some (.slice a n cap))
    (h3 : w.cell? ⟨g', 1, none⟩ = some (.int .i64 K)) (h4 : w.cell? ⟨g', 2, none⟩ = some (.slice a' n' cap')) (B : Nat) (B1 : 1 ≤ B) (B2 : B ≤ 16) :
    Calls Try.prog 55 #[.pointer (some ⟨g, 0, none⟩), .pointer (some ⟨g', 0, none⟩), .int .i64 B] w (RetV R K ((List.range (R * K)).map (mulF (bdot B) za zb M K)) w) := by
  have hg : g < w.heap.size := cell_block h0
  have hg' : g' < w.heap.size := cell_block h3
  have hg1 : g < w.heap.size + 1 := by omega
  have hg2 : g < w.heap.size + 1 + 1 := by omega
  have hg3 : g < w.heap.size + 1 + 1 + 1 := by omega
  have hg1' : g' < w.heap.size + 1 := by omega
  have hg2' : g' < w.heap.size + 1 + 1 := by omega
  have hg3' : g' < w.heap.size + 1 + 1 + 1 := by omega
  have HF := Lib.hid h
  have HF' := Lib.hid h'
  have H0 := Lib.hid h0
  have H1 := Lib.hid h1
  have H2 := Lib.hid h2
  have H3 := Lib.hid h3
  have H4 := Lib.hid h4
  have HN := Lib.hid hn
  have HN' := Lib.hid hn'
  obtain ⟨i0, hi, hz0, hz1, hz2⟩ := info_parts info_f32
  have HI := Lib.hid hi
  have HZ0 := Lib.hid hz0
  have HZ1 := Lib.hid hz1
  have HZ2 := Lib.hid hz2
  clear h h' hn hn' hi hz0 hz1 hz2
  go_enter Try.func55, Try.ntmps55
  go_upto_region 1 with fail
  go_cut [7] (fun s wx => MadeAt R K (mulF (bdot B) za zb M K) w s wx)
  case first =>
    go_region
    all_goals (go_wp2_with fail; go_meet; first | exact made_first _ _ _ _ _ rfl | exact made_first' _ _ _ _ _ rfl)
  case rest =>
    obtain ⟨gb, rfl, hm⟩ := hcut
    have HM := Lib.hid hm
    clear hm h0 h1 h2 h3 h4 hg1 hg2 hg3 hg1' hg2' hg3'
    go_wp2_with fail
    go_loopw [8] (fun i wr => ∃ k : Nat, k ≤ R ∧ i = .int .i64 k ∧ Made R K (mulF (bdot B) za zb M K) (k * K) gb w wr) (fun i _ => R - (intOf i).toNat)
    case atStart => exact ⟨0, Nat.zero_le _, rfl, by rw [Nat.zero_mul]; exact HM.out⟩
    case round =>
      obtain ⟨i, hi, rfl, hmade⟩ := hrel
      have HMD := Lib.hid hmade
      have hi0 : (0 : Int) ≤ (i : Int) := by omega
      have p0 : wr.cell? ⟨g, 0, none⟩ = some (.int .i64 R) := by obtain ⟨_, _, _, _, _, _, _, _, hbl, _⟩ := hmade; exact (hbl.cell (p := ⟨g, 0, none⟩) hg).trans H0.out
      clear hmade
      by_cases hlt : i < R
      · have hlt' : (i : Int) < (R : Int) := by omega
        obtain ⟨wo, hwo⟩ : ∃ wo : World, wo = wr := ⟨_, rfl⟩
        subst hwo
        go_wp2_with fail
        clear p0
        go_loopw [9] (fun kk wq => ∃ k : Nat, k ≤ K ∧ kk = .int .i64 k ∧ Made R K (mulF (bdot B) za zb M K) (i * K + k) gb w wq) (fun kk _ => K - (intOf kk).toNat)
        case atStart => exact ⟨0, Nat.zero_le _, rfl, by rw [Nat.add_zero]; exact HMD.out⟩
        case round =>
          obtain ⟨k, hk, rfl, b, cp, ys, hgb, hy, hb, ho, he, hbl, hr⟩ := hrel
          have hk0 : (0 : Int) ≤ (k : Int) := by omega
          have HB := Lib.hid hb
          have HO := Lib.hid ho
          have HE := Lib.hid he
          have HL := Lib.hid hbl
          have HR := Lib.hid hr
          have HY := Lib.hid hy
          have p3 : wr.cell? ⟨g', 1, none⟩ = some (.int .i64 K) := (hbl.cell (p := ⟨g', 1, none⟩) hg').trans H3.out
          clear hb ho he hbl hr hy
          by_cases hlk : k < K
          · have hlk' : (k : Int) < (K : Int) := by omega
            obtain ⟨wk, hwk⟩ : ∃ wk : World, wk = wr := ⟨_, rfl⟩
            subst hwk
            go_wp2_with fail
            clear p3
            go_loopw [10, 11] (fun s j wq => BlkRel (rowL za M i) (colL zb M K k) M B wk s j wq) (fun _ j _ => M + B - (intOf j).toNat)
            case atStart => exact ⟨0, 0, 0, 0, by rw [Nat.zero_mul], by omega, rfl, rfl, canon_cblk0 _ _ _, by decide, rfl⟩
            case round =>
              obtain ⟨t, r, m, F, htB, hF, rfl, rfl, hr, hr2, rfl⟩ := hrel
              have HT := Lib.hid htB
              have HRC := Lib.hid hr
              have HR2 := Lib.hid hr2
              have hF0 : (0 : Int) ≤ (F : Int) := by omega
              have p1 : wk.cell? ⟨g, 1, none⟩ = some (.int .i64 M) := (HL.out.cell (p := ⟨g, 1, none⟩) hg).trans H1.out
              clear htB hr hr2
              by_cases hlf : F < M
              · have hlf' : (F : Int) < (M : Int) := by omega
                have HXL := Lib.hid (part_length (F := F) (B := B) (rowL_length (i := i) (HF.out.2.2.1.trans HN.out) hlt))
                have HYL := Lib.hid (part_length (F := F) (B := B) (colL_length zb M K k))
                obtain ⟨L, hL⟩ : ∃ L, min B (M - F) = L := ⟨_, rfl⟩
                have hL1 : L ≤ B := by omega
                have hL2 : F + L ≤ M := by omega
                have hL3 : F + L = F + B ∨ (F + L = M ∧ F + L < F + B) := by omega
                rw [hL] at HXL HYL
                clear hL
                go_wp2_with fail
                go_loopw [12, 13] (fun s j wq => InBlkRel (((rowL za M i).drop F).take B) (((colL zb M K k).drop F).take B) F L wk s j wq) (fun _ j _ => F + L - (intOf j).toNat)
                case atStart => exact ⟨0, 0, m, F, rfl, Nat.zero_le _, rfl, rfl, by rw [canon_zero]; rfl, by decide, rfl⟩
                case round =>
                  obtain ⟨j, rp, m3, J, hJ, hj, rfl, rfl, hrp, hrp2, rfl⟩ := hrel
                  have HRP := Lib.hid hrp
                  have HRP2 := Lib.hid hrp2
                  have hJ0 : (0 : Int) ≤ (J : Int) := by omega
                  have kk1 : IntKind.i64.wrap ((F : Int) + (B : Int)) = (F : Int) + (B : Int) := IntWalk.i64_in _ (by omega)
                  clear hrp hrp2
                  by_cases hlj : j < L
                  · have hJB : (J : Int) < (F : Int) + (B : Int) := by omega
                    have hJM : (J : Int) < (M : Int) := by omega
                    have hJMn : J < M := by omega
                    have p2 : wk.cell? ⟨g, 2, none⟩ = some (.slice a n cap) := (HL.out.cell (p := ⟨g, 2, none⟩) hg).trans H2.out
                    have p3 : wk.cell? ⟨g', 1, none⟩ = some (.int .i64 K) := (HL.out.cell (p := ⟨g', 1, none⟩) hg').trans H3.out
                    have p4 : wk.cell? ⟨g', 2, none⟩ = some (.slice a' n' cap') := (HL.out.cell (p := ⟨g', 2, none⟩) hg').trans H4.out
                    have HONE := Lib.hid (cdot_one (xs := ((rowL za M i).drop F).take B) (ys := ((colL zb M K k).drop F).take B) (k := j) (r := rp) (by rw [HXL.out]; exact hlj) (by rw [HYL.out]; exact hlj) HRP.out)
                    obtain ⟨f1, f2, f3, f4⟩ := row_facts (cap := 0) r2 m1 m2 hlt HN.out
                    obtain ⟨e1, e2, e3, e4⟩ := col_facts m2 k2 hlk hJMn HN'.out
                    have HGA := Lib.hid (show (((rowL za M i).drop F).take B).getD j 0 = za.getD (i * M + J) 0 from (part_getD (xs := rowL za M i) (F := F) (show j < B by omega)).trans (by rw [hJ]; exact rowL_getD hJMn))
                    have HGB := Lib.hid (show (((colL zb M K k).drop F).take B).getD j 0 = zb.getD (J * K + k) 0 from (part_getD (xs := colL zb M K k) (F := F) (show j < B by omega)).trans (by rw [hJ]; exact colL_getD hJMn))
                    obtain ⟨P, hP⟩ : ∃ P, i * M = P := ⟨_, rfl⟩
                    rw [hP] at f1 f3 HGA
                    obtain ⟨Q, hQ⟩ : ∃ Q, J * K = Q := ⟨_, rfl⟩
                    rw [hQ] at e1 e3 e4 HGB
                    rcases HF.out.2.2.2.2 with h' | ⟨ab, off, rfl, hab, hcell⟩
                    · omega
                    rcases HF'.out.2.2.2.2 with h' | ⟨ab', off', rfl, hab', hcell'⟩
                    · omega
                    have c1 : wk.cell? ⟨ab, off + (P + J), none⟩ = some (.float .f32 (za.getD (P + J) 0)) := (HL.out.cell (p := ⟨ab, off + (P + J), none⟩) hab).trans (hcell (P + J) (by omega))
                    have c2 : wk.cell? ⟨ab', off' + (Q + k), none⟩ = some (.float .f32 (zb.getD (Q + k) 0)) := (HL.out.cell (p := ⟨ab', off' + (Q + k), none⟩) hab').trans (hcell' (Q + k) e1)
                    obtain ⟨x, hx⟩ : ∃ x, za.getD (P + J) 0 = x := ⟨_, rfl⟩
                    obtain ⟨y, hy⟩ : ∃ x, zb.getD (Q + k) 0 = x := ⟨_, rfl⟩
                    rw [hx] at c1
                    rw [hy] at c2
                    have HST := Lib.hid (show ∀ w1 w2, canon .f32 (fval .add .f32 rp (fval .mul .f32 x y w1) w2) = cdot ((((rowL za M i).drop F).take B).take (j + 1)) ((((colL zb M K k).drop F).take B).take (j + 1)) by have := HONE.out; rw [HGA.out, HGB.out, hx, hy] at this; exact this)
                    have j1 : (P : Int) + (J : Int) < (n : Int) := by omega
                    have j2 : (0 : Int) ≤ (P : Int) + (J : Int) := by omega
                    have j3 : (Q : Int) + (k : Int) < (n' : Int) := by omega
                    have j4 : (0 : Int) ≤ (Q : Int) + (k : Int) := by omega
                    have w1 : IntKind.i64.wrap ((i : Int) * (M : Int)) = (P : Int) := by rw [f3]; exact IntWalk.i64_in _ (by omega)
                    have w2 : IntKind.i64.wrap ((P : Int) + (J : Int)) = (P : Int) + (J : Int) := IntWalk.i64_in _ (by omega)
                    have w3 : ((P : Int) + (J : Int)).toNat = P + J := by omega
                    have w4 : IntKind.i64.wrap ((J : Int) * (K : Int)) = (Q : Int) := by rw [e3]; exact IntWalk.i64_in _ (by omega)
                    have w5 : IntKind.i64.wrap ((Q : Int) + (k : Int)) = (Q : Int) + (k : Int) := IntWalk.i64_in _ (by omega)
                    have w6 : ((Q : Int) + (k : Int)).toNat = Q + k := by omega
                    have HJ := Lib.hid hJ
                    clear hcell hcell' hP hQ hx hy f1 f2 f3 f4 e1 e2 e3 e4 HONE HGA HGB hJ hL3
                    obtain ⟨wd, hwd⟩ : ∃ wd, wk.drewN m3 = wd := ⟨_, rfl⟩
                    have HWD := Lib.hid hwd
                    have p1 : wd.cell? ⟨g, 1, none⟩ = some (.int .i64 M) := by rw [← hwd]; exact p1
                    have p2 : wd.cell? ⟨g, 2, none⟩ = some (.slice (some ⟨ab, off, none⟩) n cap) := by rw [← hwd]; exact p2
                    have p3 : wd.cell? ⟨g', 1, none⟩ = some (.int .i64 K) := by rw [← hwd]; exact p3
                    have p4 : wd.cell? ⟨g', 2, none⟩ = some (.slice (some ⟨ab', off', none⟩) n' cap') := by rw [← hwd]; exact p4
                    have c1 : wd.cell? ⟨ab, off + (P + J), none⟩ = some (.float .f32 x) := by rw [← hwd]; exact c1
                    have c2 : wd.cell? ⟨ab', off' + (Q + k), none⟩ = some (.float .f32 y) := by rw [← hwd]; exact c2
                    rw [hwd]
                    clear hwd
                    go_wp2_with fail
                    go_region
                    clear w1 w2 w3 w4 w5 w6 j1 j2 j3 j4 p2 p3 p4 c1 c2
                    go_wp2_with fail
                    go_roundw
                    case rel => exact ⟨j + 1, _, _, J + 1, by have := HJ.out; omega, by omega, by go_num, rfl, HST.out _ _, fval_lt .add .f32 _ _ _, by rw [← HWD.out]; exact World.drewN_drewN _ _ _⟩
                    case measure => have := HJ.out; simp [intOf]; omega
                  · obtain rfl : j = L := by omega
                    have HPART := Lib.hid (show canon .f32 rp = blkPart (rowL za M i) (colL zb M K k) (t * B) B by
                      have eX : (((rowL za M i).drop F).take B).take j = ((rowL za M i).drop F).take B := List.take_of_length_le (by rw [HXL.out]; exact Nat.le_refl _)
                      have eY : (((colL zb M K k).drop F).take B).take j = ((colL zb M K k).drop F).take B := List.take_of_length_le (by rw [HYL.out]; exact Nat.le_refl _)
                      rw [HRP.out, HT.out, eX, eY]; rfl)
                    rcases hL3 with h3' | ⟨h3', h4'⟩
                    · have hnB : ¬ ((J : Int) < (F : Int) + (B : Int)) := by omega
                      have hdB : decide ((J : Int) < (F : Int) + (B : Int)) = false := by simpa using hnB
                      go_wp2_with fail
                      go_roundw
                      case rel => exact ⟨t + 1, _, _, F + B, by rw [Nat.add_mul, Nat.one_mul, HT.out], by omega, by go_num, rfl, blk_next HRC.out HPART.out, fval_lt .add .f32 _ _ _, rfl⟩
                      case measure => simp [intOf]; omega
                    · have hJB : (J : Int) < (F : Int) + (B : Int) := by omega
                      have hnM : ¬ ((J : Int) < (M : Int)) := by omega
                      have hdM : decide ((J : Int) < (M : Int)) = false := by simpa using hnM
                      go_wp2_with fail
                      go_roundw
                      case rel => exact ⟨t + 1, _, _, F + B, by rw [Nat.add_mul, Nat.one_mul, HT.out], by omega, by go_num, rfl, blk_next HRC.out HPART.out, fval_lt .add .f32 _ _ _, rfl⟩
                      case measure => simp [intOf]; omega
              · have hex := blk_exit (M := M) B1 (t := t) (by rw [HT.out]; exact hF) (by rw [HT.out]; omega)
                have A4 := Lib.hid (show canon .f32 r = mulF (bdot B) za zb M K (i * K + k) by
                  rw [mulF_at hlk, HRC.out]; unfold bdot; rw [rowL_length (HF.out.2.2.1.trans HN.out) hlt, hex])
                clear hex
                have HYn := Lib.hid (show ys.length < 256 by rw [HY.out]; exact mul_small' r2 k2 hlt hlk)
                have A1 := Lib.hid (show ys.length + 1 ≤ maxLen by have := HYn.out; unfold maxLen; omega)
                have A2 := Lib.hid (show (ys.length + 1) * 4 ≤ 140737488355328 by have := HYn.out; omega)
                have A3 := Lib.hid HL.out.size
                obtain ⟨q0, q1, q2, q3⟩ := tb HB.out
                go_wp2_with (at_builtin; refine wpList_append_any _ rfl (.tmp 100) (.tmp 102) 22 rfl w.heap.size 46 i0 (.float .f32 0) 1 4 Try.underlying22 HI.out HZ0.out HZ1.out HZ2.out rfl Nat.one_pos (.slice b ys.length cp) ys.length (ys.map (Value.float .f32)) rfl (made_own HO.out) (wk.heap.size + 1) (some ⟨wk.heap.size, 0, none⟩) 1 1 [.float .f32 r] rfl made_reads (one_f32 _) A1.out A2.out (made_base A3.out) ?_)
                intro v' w' hown hgr hat
                obtain ⟨a', c', rfl⟩ := ownsRow_slice hown
                obtain ⟨⟨s1, s2⟩, hmade⟩ := made_app hgb HB.out HO.out HL.out HR.out HE.out HY.out HR2.out A4.out hown hgr
                have HMD3 := Lib.hid hmade
                clear hown hgr hat hmade q0 q1 q2 q3 p1
                go_wp2_with fail
                go_roundw
                case rel => exact ⟨k + 1, by omega, by go_num, HMD3.out⟩
                case measure => simp [intOf]; omega
          · obtain rfl : k = K := by omega
            have HMD2 := Lib.hid (show Made R k (mulF (bdot B) za zb M k) ((i + 1) * k) gb w wr by rw [Nat.add_mul, Nat.one_mul]; exact ⟨b, cp, ys, hgb, HY.out, HB.out, HO.out, HE.out, HL.out, HR.out⟩)
            go_wp2_with fail
            go_roundw
            case rel => exact ⟨i + 1, by omega, by go_num, HMD2.out⟩
            case measure => simp [intOf]; omega
      · obtain rfl : i = R := by omega
        obtain ⟨b, cp, ys, hgb, hy, hb, ho, he, hbl, hr⟩ := HMD.out
        have HO := Lib.hid ho
        have HE := Lib.hid he
        have HL := Lib.hid hbl
        have HR := Lib.hid hr
        obtain ⟨q0, q1, q2, q3⟩ := tb hb
        obtain ⟨v0, v1, v2, v3⟩ := tb hr
        obtain ⟨e0, e1, e2⟩ := tbf hr
        clear hy hb ho he hbl hr
        go_wp2_with fail
        exact bodyPost_ret (v := .agg #[.int .i64 i, .int .i64 K, .slice b ys.length cp]) (by simp [results, Try.results55, go_sem, v0, v1, v2]) rfl (made_end HO.out HL.out HR.out HE.out)
end Go.Proofs.Ytkfpaehalfjhhaa
