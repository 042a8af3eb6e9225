/-
  What PoolMean returns, as the model and as the program make it. Conditions: the numbers can be read.
-/
import Derived.Test.YtaonfaeinoackaaPoolN
import Derived.Test.YtaonfaeinoackaaTSumAll
namespace Go.Proofs.Ytaonfaeinoackaa
open Go.RowKit Go.Deep Go.WideShapes Go.ChangeShapes
set_option linter.unusedVariables false

def vPoolMean (r c : Int) (z : List Nat) (s : Int) : Int × Int × Bool × List Nat := vPool gMean r c z s
theorem vPoolMean_len (r c : Int) (z : List Nat) (s : Int) : (vPoolMean r c z s).2.2.2.length ≤ 1048576 := vPool_len gMean r c z s
set_option maxHeartbeats 1000000 in
theorem x_mean (z : List Nat) (S R C : Nat) (w : World) (s1 : 1 ≤ S) (s2 : S ≤ 8) : TakeOk 82 #[] (fun top left => gMean (partZ z C top left S S) S) z R C S S w :=
  ⟨enters_of Try.func82 (by kernel_rfl) (by kernel_rfl), fun top left b c wr _ _ hb hf => by
    have h1 : 1 ≤ S * S := Nat.mul_le_mul s1 s1
    have h2 : S * S ≤ 64 := Nat.mul_le_mul s2 s2
    show Calls Try.prog 82 #[.slice b (S * S) c] wr (RetX (gMean (partZ z C top left S S) S) wr)
    obtain ⟨l, hl⟩ : ∃ l, partZ z C top left S S = l := ⟨_, rfl⟩
    obtain ⟨n, hn⟩ : ∃ n, S * S = n := ⟨_, rfl⟩
    have HG := Lib.hid (show gMean l S = cop .quo .f32 (csum l) (canon .f32 (floatOfInt .f32 (n : Int))) by unfold gMean; rw [hn])
    rw [hl, hn] at hf
    rw [hn] at h1 h2
    rw [hn, hl, HG.out]
    have HF := Lib.hid hf
    clear hf hn hl hb HG
    go_enter Try.func82, Try.ntmps82
    go_wp2_with fail
    refine (c_sumInOrder b n c l wr HF.out (by omega)).mono ?_
    rintro e w2 ⟨p, nd, hp, hpl, rfl, rfl⟩
    have HP := Lib.hid hp
    clear hp hpl
    go_wp2_with fail
    go_ret
    exact ⟨_, rfl, by rw [canon_fval, HP.out], fval_lt .quo .f32 _ _ _, below_drewN (Below.refl _ _) _⟩⟩
set_option maxRecDepth 20000 in
set_option maxHeartbeats 2000000 in
theorem t_sPoolMean (r c : Int) (z : List Nat) (s : Int) (a0 : Option Addr) (w : World) (h0 : IsFloats .f32 w a0 z.length z.length z) :
    Calls Try.prog 47 #[.agg #[.int .i64 r, .int .i64 c, .slice a0 z.length z.length], .int .i64 s] w (RetT (vPoolMean r c z s).1 (vPoolMean r c z s).2.1 (vPoolMean r c z s).2.2.1 (vPoolMean r c z s).2.2.2 w) := by
  have hn : z.length ≤ 9223372036854775807 := by have := h0.2.1; unfold maxLen at this; exact this
  have HI := Lib.hid h0
  clear h0
  obtain ⟨V, hV⟩ : ∃ V, vPoolMean r c z s = V := ⟨_, rfl⟩
  rw [hV]
  obtain ⟨x1, x2, x3, x4⟩ := V
  have HV := Lib.hid hV
  clear hV
  go_enter Try.func47, Try.ntmps47
  go_wp2_with fail
  have B_0 := Lib.hid (Below.refl w.heap.size w)
  have bl := (Below.refl (w).heap.size (w)).alloc (Nat.le_refl _) (.cells #[.int .i64 r, .int .i64 c, .slice a0 z.length z.length] 36)
  have hn1 := Blk.new (w) 36 #[.int .i64 r, .int .i64 c, .slice a0 z.length z.length]
  have B_1 := Lib.hid (Below.next B_0.out bl)
  clear bl B_0
  have K_1 := Lib.hid hn1
  clear hn1
  have bl := (Below.refl ((w).alloc (.cells #[.int .i64 r, .int .i64 c, .slice a0 z.length z.length] 36)).heap.size ((w).alloc (.cells #[.int .i64 r, .int .i64 c, .slice a0 z.length z.length] 36))).alloc (Nat.le_refl _) (.cells #[.int .i64 0, .int .i64 0, .slice none 0 0] 36)
  have hn1 := Blk.new ((w).alloc (.cells #[.int .i64 r, .int .i64 c, .slice a0 z.length z.length] 36)) 36 #[.int .i64 0, .int .i64 0, .slice none 0 0]
  simp only [World.size_alloc] at hn1
  have B_2 := Lib.hid (Below.next B_1.out bl)
  have K_2 := Lib.hid (K_1.out.below bl)
  clear bl B_1 K_1
  have Q_2 := Lib.hid hn1
  clear hn1
  generalize ((w).alloc (.cells #[.int .i64 r, .int .i64 c, .slice a0 z.length z.length] 36)).alloc (.cells #[.int .i64 0, .int .i64 0, .slice none 0 0] 36) = w2 at B_2 K_2 Q_2 ⊢
  obtain ⟨pK0, pK1, pK2, pK3⟩ := tb K_2.out
  have HC := c_l03PoolMean w.heap.size r c z s a0 w2 (HI.out.kept B_2.out) hn pK0 pK1 pK2
  rw [show vPool gMean r c z s = (x1, x2, x3, x4) from HV.out] at HC
  refine HC.mono ?_
  clear HC pK0 pK1 pK2 pK3
  rintro e w3 ⟨b, cp, ys, rfl, ho, he, bl⟩
  have HW := Lib.hid (ho.base (B' := w.heap.size) B_2.out.size)
  have HE := Lib.hid he
  have B_3 := Lib.hid (Below.next B_2.out bl)
  have Q_3 := Lib.hid (Q_2.out.below bl)
  clear ho he bl B_2 Q_2 K_2 HV
  obtain ⟨pQ0, pQ1, pQ2, pQ3⟩ := tb Q_3.out
  obtain ⟨fq0, fq1, fq2⟩ := tbf Q_3.out
  go_wp2_with fail
  exact bodyPost_ret (v := .tuple #[.agg #[.int .i64 x1, .int .i64 x2, .slice b ys.length cp], .bool x3]) (by simp [results, Try.results47, go_sem, pQ0, pQ1, pQ2]) rfl ⟨b, cp, ys, rfl, HW.out.off (store3 Q_3.out).2 Q_3.out (by decide), HE.out, ((B_3.out.setCell (by simp) _).setCell (by simp) _).setCell (by simp) _⟩
set_option maxRecDepth 20000 in
set_option maxHeartbeats 2000000 in
theorem t_iPoolMean (r c : Int) (z : List Nat) (s : Int) (a0 : Option Addr) (w : World) (h0 : IsFloats .f32 w a0 z.length z.length z) :
    Calls Try.prog 48 #[.agg #[.int .i64 r, .int .i64 c, .slice a0 z.length z.length], .int .i64 s] w (RetT (vPoolMean r c z s).1 (vPoolMean r c z s).2.1 (vPoolMean r c z s).2.2.1 (vPoolMean r c z s).2.2.2 w) := by
  have hn : z.length ≤ 9223372036854775807 := by have := h0.2.1; unfold maxLen at this; exact this
  have HI := Lib.hid h0
  clear h0
  obtain ⟨V, hV⟩ : ∃ V, vPoolMean r c z s = V := ⟨_, rfl⟩
  rw [hV]
  obtain ⟨x1, x2, x3, x4⟩ := V
  have HV := Lib.hid hV
  clear hV
  go_enter Try.func48, Try.ntmps48
  go_wp2_with fail
  have B_0 := Lib.hid (Below.refl w.heap.size w)
  have bl := (Below.refl (w).heap.size (w)).alloc (Nat.le_refl _) (.cells #[.int .i64 r, .int .i64 c, .slice a0 z.length z.length] 36)
  have hn1 := Blk.new (w) 36 #[.int .i64 r, .int .i64 c, .slice a0 z.length z.length]
  have B_1 := Lib.hid (Below.next B_0.out bl)
  clear bl B_0
  have K_1 := Lib.hid hn1
  clear hn1
  have bl := (Below.refl ((w).alloc (.cells #[.int .i64 r, .int .i64 c, .slice a0 z.length z.length] 36)).heap.size ((w).alloc (.cells #[.int .i64 r, .int .i64 c, .slice a0 z.length z.length] 36))).alloc (Nat.le_refl _) (.cells #[.int .i64 0, .int .i64 0, .slice none 0 0] 36)
  have hn1 := Blk.new ((w).alloc (.cells #[.int .i64 r, .int .i64 c, .slice a0 z.length z.length] 36)) 36 #[.int .i64 0, .int .i64 0, .slice none 0 0]
  simp only [World.size_alloc] at hn1
  have B_2 := Lib.hid (Below.next B_1.out bl)
  have K_2 := Lib.hid (K_1.out.below bl)
  clear bl B_1 K_1
  have Q_2 := Lib.hid hn1
  clear hn1
  generalize ((w).alloc (.cells #[.int .i64 r, .int .i64 c, .slice a0 z.length z.length] 36)).alloc (.cells #[.int .i64 0, .int .i64 0, .slice none 0 0] 36) = w2 at B_2 K_2 Q_2 ⊢
  obtain ⟨pK0, pK1, pK2, pK3⟩ := tb K_2.out
  have HC := c_pool 82 gMean r c z s a0 w2 (HI.out.kept B_2.out) (fun S R C wr _ s1 s2 _ => x_mean z S R C wr s1 s2)
  go_wp2_with fail
  rw [show vPool gMean r c z s = (x1, x2, x3, x4) from HV.out] at HC
  refine HC.mono ?_
  clear HC pK0 pK1 pK2 pK3
  rintro e w3 ⟨b, cp, ys, rfl, ho, he, bl⟩
  have HW := Lib.hid (ho.base (B' := w.heap.size) B_2.out.size)
  have HE := Lib.hid he
  have B_3 := Lib.hid (Below.next B_2.out bl)
  have Q_3 := Lib.hid (Q_2.out.below bl)
  clear ho he bl B_2 Q_2 K_2 HV
  obtain ⟨pQ0, pQ1, pQ2, pQ3⟩ := tb Q_3.out
  obtain ⟨fq0, fq1, fq2⟩ := tbf Q_3.out
  go_wp2_with fail
  exact bodyPost_ret (v := .tuple #[.agg #[.int .i64 x1, .int .i64 x2, .slice b ys.length cp], .bool x3]) (by simp [results, Try.results48, go_sem, pQ0, pQ1, pQ2]) rfl ⟨b, cp, ys, rfl, HW.out.off (store3 Q_3.out).2 Q_3.out (by decide), HE.out, ((B_3.out.setCell (by simp) _).setCell (by simp) _).setCell (by simp) _⟩
end Go.Proofs.Ytaonfaeinoackaa
