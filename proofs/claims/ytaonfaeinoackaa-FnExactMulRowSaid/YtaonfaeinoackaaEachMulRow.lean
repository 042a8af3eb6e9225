/-
  Tensors number by number: l02MulRow, as the model makes it. Conditions: the numbers can be read.
-/
import Derived.Test.YtaonfaeinoackaaEach
namespace Go.Proofs.Ytaonfaeinoackaa
open Go.RowKit Go.Deep Go.WideShapes Go.ChangeShapes

set_option maxHeartbeats 2000000 in
theorem c_l02MulRow (g : Nat) (R : Int) (C : Nat) (hC : 1 ≤ C) (hC' : C ≤ 16) (a a2 : Option Addr) (n cap cap2 : Nat) (zs xs : List Nat) (w : World) (h : IsFloats .f32 w a n cap zs) (h' : IsFloats .f32 w a2 C cap2 xs) (hn : n ≤ 256)
    (h0 : w.cell? ⟨g, 0, none⟩ = some (.int .i64 R)) (h1 : w.cell? ⟨g, 1, none⟩ = some (.int .i64 C)) (h2 : w.cell? ⟨g, 2, none⟩ = some (.slice a n cap)) :
    Calls Try.prog 71 #[.pointer (some ⟨g, 0, none⟩), .slice a2 C cap2] w (RetV R C ((List.range n).map fun i => cop .mul .f32 (canon .f32 (zs.getD i 0)) (canon .f32 (xs.getD (i % C) 0))) w) := by
  have hg : g < w.heap.size := cell_block h0
  have hg1 : g < w.heap.size + 1 := by omega
  have hg2 : g < w.heap.size + 1 + 1 := by omega
  have hg3 : g < w.heap.size + 1 + 1 + 1 := by omega
  have HF := Lib.hid h
  have H2 := Lib.hid h2
  have H1 := Lib.hid h1
  have HF' := Lib.hid h'
  obtain ⟨i0, hi, hz0, hz1, hz2⟩ := info_parts info_f32
  have HI := Lib.hid hi
  have HZ0 := Lib.hid hz0
  have HZ1 := Lib.hid hz1
  have HZ2 := Lib.hid hz2
  clear h h' hi hz0 hz1 hz2
  go_enter Try.func71, Try.ntmps71
  go_upto_region 1 with fail
  go_cut [5] (fun s wx => MadeAt R C (fun i => cop .mul .f32 (canon .f32 (zs.getD i 0)) (canon .f32 (xs.getD (i % C) 0))) w s wx)
  case first =>
    go_region
    all_goals (go_wp2_with fail; go_meet; first | exact made_first _ _ _ _ _ rfl | exact made_first' _ _ _ _ _ rfl)
  case rest =>
    obtain ⟨gb, rfl, hm⟩ := hcut
    have HM := Lib.hid hm
    clear hm h0 h1 h2 hg1 hg2 hg3
    go_wp2_with fail
    go_loopw [6] (fun i wr => MadeRel R C (fun i => cop .mul .f32 (canon .f32 (zs.getD i 0)) (canon .f32 (xs.getD (i % C) 0))) n gb w i wr) (fun i _ => n - (intOf i).toNat)
    case atStart => exact ⟨0, Nat.zero_le _, rfl, HM.out⟩
    case round =>
      obtain ⟨k, hk, rfl, b, cp, ys, hgb, hy, hb, ho, he, hbl, hr⟩ := hrel
      have hk0 : (0 : Int) ≤ (k : Int) := by omega
      have HB := Lib.hid hb
      have HO := Lib.hid ho
      have HE := Lib.hid he
      have HL := Lib.hid hbl
      have HR := Lib.hid hr
      have HY := Lib.hid hy
      obtain ⟨q0, q1, q2, q3⟩ := tb hb
      obtain ⟨f0, f1, f2⟩ := tbf hb
      have p2 : wr.cell? ⟨g, 2, none⟩ = some (.slice a n cap) := (hbl.cell (p := ⟨g, 2, none⟩) hg).trans H2.out
      have p1 : wr.cell? ⟨g, 1, none⟩ = some (.int .i64 C) := (hbl.cell (p := ⟨g, 1, none⟩) hg).trans H1.out
      clear hb ho he hbl hr hy
      by_cases hlt : k < n
      · have hlt' : (k : Int) < (n : Int) := by omega
        rcases HF.out.2.2.2.2 with h' | ⟨ab, off, rfl, hab, hcell⟩
        · omega
        · rcases HF'.out.2.2.2.2 with h' | ⟨ab2, off2, rfl, hab2, hcell2⟩
          · omega
          obtain ⟨q, hq⟩ : ∃ q, k % C = q := ⟨_, rfl⟩
          have HQ := Lib.hid hq
          have hqC : q < C := by rw [← hq]; exact Nat.mod_lt _ (by omega)
          clear hq
          have hmod : q < C := hqC
          have hx : wr.cell? ⟨ab, off + k, none⟩ = some (.float .f32 (zs.getD k 0)) := (HL.out.cell (p := ⟨ab, off + k, none⟩) hab).trans (hcell k hlt)
          have hx2 : wr.cell? ⟨ab2, off2 + q, none⟩ = some (.float .f32 (xs.getD (q) 0)) := (HL.out.cell (p := ⟨ab2, off2 + q, none⟩) hab2).trans (hcell2 (q) hmod)
          obtain ⟨z, hz⟩ : ∃ z, zs.getD k 0 = z := ⟨_, rfl⟩
          rw [hz] at hx
          have HZ := Lib.hid hz
          obtain ⟨y, hy⟩ : ∃ z, xs.getD (q) 0 = z := ⟨_, rfl⟩
          rw [hy] at hx2
          have HY2 := Lib.hid hy
          clear hcell2 hy
          have j6 : ((k : Int).tmod (C : Int)) = (q : Int) := by rw [Int.tmod_eq_emod_of_nonneg (by omega), ← HQ.out]; exact (Int.natCast_emod k C).symm
          have j7 : ¬ C = 0 := by omega
          have j8 : (q : Int) < (C : Int) := by omega
          have j9 : (0 : Int) ≤ (q : Int) := by omega
          clear hcell hz
          go_wp2_with fail
          have A1 := Lib.hid (show ys.length + 1 ≤ maxLen by have := HY.out; unfold maxLen; omega)
          have A2 := Lib.hid (show (ys.length + 1) * 4 ≤ 140737488355328 by have := HY.out; omega)
          have A3 := Lib.hid HL.out.size
          have A4 := Lib.hid (show canon .f32 (fval .mul .f32 z y wr.drew) = (fun i => cop .mul .f32 (canon .f32 (zs.getD i 0)) (canon .f32 (xs.getD (i % C) 0))) k by rw [canon_fval, ← HZ.out, ← HY2.out, ← HQ.out])
          have A5 := Lib.hid (show fval .mul .f32 z y wr.drew < 2 ^ 32 from fval_lt .mul .f32 z y wr.drew)
          have hq : ((wr.drewN (1 + fdr .mul .f32 z y)).alloc (.cells #[.float .f32 (fval .mul .f32 z y wr.drew)] 23)).cell? ⟨gb, 2, none⟩ = some (.slice b ys.length cp) := made_old HB.out
          go_region_law (refine step_append_any _ rfl (.tmp 27) (.tmp 45) 22 rfl w.heap.size 23 i0 (.float .f32 0) 1 4 Try.underlying22 HI.out HZ0.out HZ1.out HZ2.out rfl Nat.one_pos (.slice b ys.length cp) ys.length (ys.map (Value.float .f32)) rfl (made_own HO.out) (wr.heap.size + 1) (some ⟨wr.heap.size, 0, none⟩) 1 1 [.float .f32 (fval .mul .f32 z y wr.drew)] rfl made_reads (one_f32 _) A1.out A2.out (made_base A3.out) ?_; intro v' w' hown hgr hat; obtain ⟨a', c', rfl⟩ := ownsRow_slice hown; obtain ⟨⟨s1, s2⟩, hmade⟩ := made_app hgb HB.out HO.out HL.out HR.out HE.out HY.out A5.out A4.out hown hgr; have HMD := Lib.hid hmade; clear hown hgr hat hmade)
          all_goals
            go_wp2_with fail
            go_roundw
            case rel => exact ⟨k + 1, by omega, by go_num, HMD.out⟩
            case measure => simp [intOf]; omega
      · obtain rfl : k = n := by omega
        obtain ⟨v0, v1, v2, v3⟩ := tb HR.out
        obtain ⟨e0, e1, e2⟩ := tbf HR.out
        go_wp2_with fail
        exact bodyPost_ret (v := .agg #[.int .i64 R, .int .i64 C, .slice b ys.length cp]) (by simp [results, Try.results71, go_sem, v0, v1, v2]) rfl (made_end HO.out HL.out HR.out HE.out)
end Go.Proofs.Ytaonfaeinoackaa
