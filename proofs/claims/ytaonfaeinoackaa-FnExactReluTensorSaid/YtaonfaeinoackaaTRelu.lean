/-
  What ReluTensor returns, as the model and as the program make it. Conditions: the numbers can be read.
-/
import Derived.Test.YtaonfaeinoackaaEach
import Derived.Test.YtaonfaeinoackaaRlu
namespace Go.Proofs.Ytaonfaeinoackaa
open Go.RowKit Go.Deep Go.WideShapes Go.ChangeShapes

/-- what is greater than 0, on one pattern for not-a-numbers -/
def crelu (x : Nat) : Nat := if (FloatKind.f32.format.order x 0 == some .lt || FloatKind.f32.format.order x 0 == some .eq) = true then 0 else canon .f32 x
theorem crelu_zero {x : Nat} (h : (FloatKind.f32.format.order x 0 == some .lt || FloatKind.f32.format.order x 0 == some .eq) = true) : canon .f32 0 = crelu x := by unfold crelu; rw [if_pos h]; exact canon_zero
theorem crelu_keep {x : Nat} (h : (FloatKind.f32.format.order x 0 == some .lt || FloatKind.f32.format.order x 0 == some .eq) = false) : canon .f32 x = crelu x := by unfold crelu; rw [if_neg (by rw [h]; decide)]
theorem own0 {B : Nat} {wr : World} {b : Option Addr} {cp v : Nat} {ys : List Nat} (ho : OwnF wr B b cp ys) : (wr.alloc (.cells #[.float .f32 v] 23)).ownsRow B 23 1 (.slice b ys.length cp) ys.length (ys.map (Value.float .f32)) := (ho.kept ((Below.refl _ _).alloc (Nat.le_refl _) _)).1
theorem reads0 {wr : World} {v : Nat} : Reads (wr.alloc (.cells #[.float .f32 v] 23)) (wr.heap.size + 1) 1 (some ⟨wr.heap.size, 0, none⟩) 1 [.float .f32 v] := by
  have h := made_reads (wr := wr) (m := 0) (v := v)
  rw [World.drewN_zero] at h
  exact h
theorem base0 {w wr : World} {v : Nat} (h : w.heap.size ≤ wr.heap.size) : w.heap.size ≤ (wr.alloc (.cells #[.float .f32 v] 23)).heap.size := by
  rw [World.size_alloc]; exact Nat.le_trans h (Nat.le_succ _)
theorem app0 {R C : Int} {f : Nat → Nat} {k gb : Nat} {w wr w' : World} {b a' : Option Addr} {cp cp' v : Nat} {ys : List Nat} (hgb : w.heap.size < gb)
    (hb : Blk wr gb 36 #[.int .i64 R, .int .i64 C, .slice b ys.length cp]) (ho : OwnF wr w.heap.size b cp ys) (hl : Below w.heap.size w wr) (hr : Blk wr w.heap.size 36 #[.int .i64 0, .int .i64 0, .slice none 0 0])
    (he : ys.map (canon .f32) = (List.range k).map f) (hy : ys.length = k) (hv : v < 2 ^ 32) (hc : canon .f32 v = f k)
    (hown : w'.ownsRow w.heap.size 23 1 (.slice a' (ys.length + 1) cp') (ys.length + 1) (ys.map (Value.float .f32) ++ [.float .f32 v])) (hg : (wr.alloc (.cells #[.float .f32 v] 23)).grownBy w' (Value.ownBlock (.slice b ys.length cp))) :
    (w'.cell? ⟨gb, 2, none⟩ = some (.slice b ys.length cp) ∧ w'.frozen? ⟨gb, 2, none⟩ = false) ∧ Made R C f (k + 1) gb w (w'.setCell ⟨gb, 2, none⟩ (.slice a' (ys.length + 1) cp')) :=
  made_app (m := 0) hgb hb ho hl hr he hy hv hc hown (by rw [World.drewN_zero]; exact hg)

set_option maxHeartbeats 2000000 in
theorem c_l02Relu (g : Nat) (R C : Int) (a : Option Addr) (n cap : Nat) (zs : List Nat) (w : World) (h : IsFloats .f32 w a n cap zs) (hn : n ≤ 256)
    (h0 : w.cell? ⟨g, 0, none⟩ = some (.int .i64 R)) (h1 : w.cell? ⟨g, 1, none⟩ = some (.int .i64 C)) (h2 : w.cell? ⟨g, 2, none⟩ = some (.slice a n cap)) :
    Calls Try.prog 74 #[.pointer (some ⟨g, 0, none⟩)] w (RetV R C ((List.range n).map fun i => crelu (zs.getD i 0)) w) := by
  have hg : g < w.heap.size := cell_block h0
  have hg1 : g < w.heap.size + 1 := by omega
  have hg2 : g < w.heap.size + 1 + 1 := by omega
  have hg3 : g < w.heap.size + 1 + 1 + 1 := by omega
  have HF := Lib.hid h
  have H2 := Lib.hid h2
  obtain ⟨i0, hi, hz0, hz1, hz2⟩ := info_parts info_f32
  have HI := Lib.hid hi
  have HZ0 := Lib.hid hz0
  have HZ1 := Lib.hid hz1
  have HZ2 := Lib.hid hz2
  clear h hi hz0 hz1 hz2
  go_enter Try.func74, Try.ntmps74
  go_upto_region 1 with fail
  go_cut [3] (fun s wx => MadeAt R C (fun i => crelu (zs.getD i 0)) w s wx)
  case first =>
    go_region
    all_goals (go_wp2_with fail; go_meet; first | exact made_first _ _ _ _ _ rfl | exact made_first' _ _ _ _ _ rfl)
  case rest =>
    obtain ⟨gb, rfl, hm⟩ := hcut
    have HM := Lib.hid hm
    clear hm h0 h1 h2 hg1 hg2 hg3
    go_wp2_with fail
    go_loopw [4] (fun i wr => MadeRel R C (fun i => crelu (zs.getD i 0)) n gb w i wr) (fun i _ => n - (intOf i).toNat)
    case atStart => exact ⟨0, Nat.zero_le _, rfl, HM.out⟩
    case round =>
      obtain ⟨k, hk, rfl, b, cp, ys, hgb, hy, hb, ho, he, hbl, hr⟩ := hrel
      have hk0 : (0 : Int) ≤ (k : Int) := by omega
      have HB := Lib.hid hb
      have HO := Lib.hid ho
      have HE := Lib.hid he
      have HL := Lib.hid hbl
      have HR := Lib.hid hr
      have HY := Lib.hid hy
      obtain ⟨q0, q1, q2, q3⟩ := tb hb
      obtain ⟨f0, f1, f2⟩ := tbf hb
      have p2 : wr.cell? ⟨g, 2, none⟩ = some (.slice a n cap) := (hbl.cell (p := ⟨g, 2, none⟩) hg).trans H2.out
      clear hb ho he hbl hr hy
      by_cases hlt : k < n
      · have hlt' : (k : Int) < (n : Int) := by omega
        have hzl := (HF.out.2.2.2.1 : ∀ y ∈ zs, y < 2 ^ 32)
        have hkz : k < zs.length := by rw [HF.out.2.2.1]; exact hlt
        rcases HF.out.2.2.2.2 with h' | ⟨ab, off, rfl, hab, hcell⟩
        · omega
        · have hx : wr.cell? ⟨ab, off + k, none⟩ = some (.float .f32 (zs.getD k 0)) := (HL.out.cell (p := ⟨ab, off + k, none⟩) hab).trans (hcell k hlt)
          have hzk : zs.getD k 0 < 2 ^ 32 := hzl _ (by simp [List.getD, hkz])
          obtain ⟨z, hz⟩ : ∃ z, zs.getD k 0 = z := ⟨_, rfl⟩
          rw [hz] at hx hzk
          have HZ := Lib.hid hz
          have HZK := Lib.hid hzk
          clear hcell hz hzl hzk hkz
          have A1 := Lib.hid (show ys.length + 1 ≤ maxLen by have := HY.out; unfold maxLen; omega)
          have A2 := Lib.hid (show (ys.length + 1) * 4 ≤ 140737488355328 by have := HY.out; omega)
          have A3 := Lib.hid HL.out.size
          cases ht : (FloatKind.f32.format.order z 0 == some .lt || FloatKind.f32.format.order z 0 == some .eq) with
          | true =>
            have A4 := Lib.hid (show canon .f32 0 = (fun i => crelu (zs.getD i 0)) k from (crelu_zero ht).trans (by rw [← HZ.out]))
            go_wp2_with (at_builtin; refine wpList_append_any _ rfl (.tmp 35) (.tmp 37) 22 rfl w.heap.size 23 i0 (.float .f32 0) 1 4 Try.underlying22 HI.out HZ0.out HZ1.out HZ2.out rfl Nat.one_pos (.slice b ys.length cp) ys.length (ys.map (Value.float .f32)) rfl (own0 HO.out) (wr.heap.size + 1) (some ⟨wr.heap.size, 0, none⟩) 1 1 [.float .f32 0] rfl reads0 (one_f32 _) A1.out A2.out (base0 A3.out) ?_; intro v' w' hown hgr hat; obtain ⟨a', c', rfl⟩ := ownsRow_slice hown; obtain ⟨⟨s1, s2⟩, hmade⟩ := app0 hgb HB.out HO.out HL.out HR.out HE.out HY.out (by decide) A4.out hown hgr; have HMD := Lib.hid hmade; clear hown hgr hat hmade)
            go_roundw
            case rel => exact ⟨k + 1, by omega, by go_num, HMD.out⟩
            case measure => simp [intOf]; omega
          | false =>
            have A4 := Lib.hid (show canon .f32 z = (fun i => crelu (zs.getD i 0)) k from (crelu_keep ht).trans (by rw [← HZ.out]))
            go_wp2_with (at_builtin; refine wpList_append_any _ rfl (.tmp 35) (.tmp 37) 22 rfl w.heap.size 23 i0 (.float .f32 0) 1 4 Try.underlying22 HI.out HZ0.out HZ1.out HZ2.out rfl Nat.one_pos (.slice b ys.length cp) ys.length (ys.map (Value.float .f32)) rfl (own0 HO.out) (wr.heap.size + 1) (some ⟨wr.heap.size, 0, none⟩) 1 1 [.float .f32 z] rfl reads0 (one_f32 _) A1.out A2.out (base0 A3.out) ?_; intro v' w' hown hgr hat; obtain ⟨a', c', rfl⟩ := ownsRow_slice hown; obtain ⟨⟨s1, s2⟩, hmade⟩ := app0 hgb HB.out HO.out HL.out HR.out HE.out HY.out HZK.out A4.out hown hgr; have HMD := Lib.hid hmade; clear hown hgr hat hmade)
            go_roundw
            case rel => exact ⟨k + 1, by omega, by go_num, HMD.out⟩
            case measure => simp [intOf]; omega
      · obtain rfl : k = n := by omega
        obtain ⟨v0, v1, v2, v3⟩ := tb HR.out
        obtain ⟨e0, e1, e2⟩ := tbf HR.out
        go_wp2_with fail
        exact bodyPost_ret (v := .agg #[.int .i64 R, .int .i64 C, .slice b ys.length cp]) (by simp [results, Try.results74, go_sem, v0, v1, v2]) rfl (made_end HO.out HL.out HR.out HE.out)
theorem c_relu (x : Nat) (hx : x < 4294967296) (w : World) : Calls Try.prog 76 #[.float .f32 x] w fun e w' => (∃ v, e = .returned (.float .f32 v) ∧ canon .f32 v = crelu x ∧ v < 2 ^ 32) ∧ Below w.heap.size w w' := c_reluL x hx w
end Go.Proofs.Ytaonfaeinoackaa
