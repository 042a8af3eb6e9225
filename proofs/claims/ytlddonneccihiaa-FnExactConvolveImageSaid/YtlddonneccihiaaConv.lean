/-
  Products of a kernel along a row and over an image, as the program makes them; ConvolveRow, as its model makes it. Conditions: the numbers can be read.
-/
import Derived.Test.YtlddonneccihiaaParts
import Derived.Test.YtlddonneccihiaaDotIn
namespace Go.Proofs.Ytlddonneccihiaa
open Go.RowKit Go.Deep Go.WideShapes Go.ChangeShapes

def szB (n : Int) : Bool := decide (1 ≤ n) && decide (n ≤ 8)
theorem szB_iff (n : Int) : szB n = true ↔ 1 ≤ n ∧ n ≤ 8 := by simp [szB]
theorem szB_no (n : Int) : szB n = false ↔ n < 1 ∨ 8 < n := by
  have := szB_iff n
  cases h : szB n
  · simp [h] at this; constructor
    · intro _; omega
    · intro _; rfl
  · have := this.1 h
    simp; omega
theorem c_isKernelSize (n : Int) (b : Bool) (h : szB n = b) (w : World) : Calls Try.prog 43 #[.int .i64 n] w fun e w' => e = .returned (.bool b) ∧ w = w' := by
  cases b with
  | true =>
    obtain ⟨h1, h2⟩ := (szB_iff n).1 h
    clear h
    go_enter Try.func43, Try.ntmps43
    go_wp2
    go_ret
    exact ⟨rfl, rfl⟩
  | false =>
    rcases (szB_no n).1 h with h1 | h1
    · clear h
      go_enter Try.func43, Try.ntmps43
      go_wp2
      go_ret
      exact ⟨rfl, rfl⟩
    · clear h
      have h2 : 1 ≤ n := by omega
      go_enter Try.func43, Try.ntmps43
      go_wp2
      go_ret
      exact ⟨ret_b (decide_eq_false (by omega)), rfl⟩
theorem x_convolve1 (KR KC : Nat) (zk : List Nat) (ka : Option Addr) (kcap n gk : Nat) (z : List Nat) (R C : Nat) (w : World) (hk : IsFloats .f32 w ka n kcap zk) (hn : KR * KC = n) (p : w.cell? ⟨gk, 2, none⟩ = some (.slice ka n kcap)) :
    TakeOk 60 #[.pointer (some ⟨gk, 0, none⟩)] (fun top left => cdot zk (partZ z C top left KC KR)) z R C KR KC w :=
  ⟨enters_of Try.func60 (by kernel_rfl) (by kernel_rfl), fun top left b c wr _ _ hb hf => by
    rw [hn] at hf ⊢
    have HK := Lib.hid (hk.kept hb)
    have HX := Lib.hid hf
    have hg : gk < w.heap.size := cell_block p
    have q2 := (hb.cell (p := ⟨gk, 2, none⟩) hg).trans p
    clear hk hf hb p hn hg
    show Calls Try.prog 60 #[.slice b n c, .pointer (some ⟨gk, 0, none⟩)] wr (RetX (cdot zk (partZ z C top left KC KR)) wr)
    go_enter Try.func60, Try.ntmps60
    go_wp2_with fail
    refine (c_dotIn32 ka b n kcap c zk _ _ HK.out HX.out).mono ?_
    rintro e w2 ⟨r, q, hr, hrl, rfl, rfl⟩
    have HR := Lib.hid hr
    have HRL := Lib.hid hrl
    clear hr hrl
    go_wp2_with fail
    go_ret
    exact ⟨r, rfl, HR.out, HRL.out, below_drewN (Below.refl _ _) q⟩⟩
set_option maxRecDepth 20000 in
set_option maxHeartbeats 1000000 in
theorem c_convolve (R C KR KC : Nat) (a ka : Option Addr) (n cap m kcap : Nat) (z zk : List Nat) (s : Nat) (w : World) (h : IsFloats .f32 w a n cap z) (hk : IsFloats .f32 w ka m kcap zk) (hn : n = R * C) (hm : KR * KC = m) (hR : R ≤ 16) (hC : C ≤ 16) (h1 : 1 ≤ KR) (h2 : 1 ≤ KC) (r1 : KR ≤ R) (r2 : KC ≤ C) (s1 : 1 ≤ s) (s2 : s ≤ 16) :
    Calls Try.prog 44 #[.agg #[.int .i64 R, .int .i64 C, .slice a n cap], .agg #[.int .i64 KR, .int .i64 KC, .slice ka m kcap], .int .i64 s] w (RetV (steps R KR s : Nat) (steps C KC s : Nat) ((List.range (steps R KR s * steps C KC s)).map (partsF (fun top left => cdot zk (partZ z C top left KC KR)) s (steps C KC s))) w) := by
  have HX := Lib.hid h
  have HK := Lib.hid hk
  have HN := Lib.hid hn
  have HM := Lib.hid hm
  obtain ⟨NR, hNR⟩ : ∃ x, steps R KR s = x := ⟨_, rfl⟩
  obtain ⟨NC, hNC⟩ : ∃ x, steps C KC s = x := ⟨_, rfl⟩
  have HNR := Lib.hid hNR
  have HNC := Lib.hid hNC
  rw [hNR, hNC]
  clear h hk hn hm hNR hNC
  go_enter Try.func44, Try.ntmps44
  go_wp2_with fail
  have B_0 := Lib.hid (Below.refl w.heap.size w)
  have bl := (Below.refl (w).heap.size (w)).alloc (Nat.le_refl _) (.cells #[.int .i64 R, .int .i64 C, .slice a n cap] 48)
  have hn := Blk.new (w) 48 #[.int .i64 R, .int .i64 C, .slice a n cap]
  have B_1 := Lib.hid (Below.next B_0.out bl)
  clear bl B_0
  have K_1 := Lib.hid hn
  clear hn
  have bl := (Below.refl ((w).alloc (.cells #[.int .i64 R, .int .i64 C, .slice a n cap] 48)).heap.size ((w).alloc (.cells #[.int .i64 R, .int .i64 C, .slice a n cap] 48))).alloc (Nat.le_refl _) (.cells #[.int .i64 KR, .int .i64 KC, .slice ka m kcap] 48)
  have hn := Blk.new ((w).alloc (.cells #[.int .i64 R, .int .i64 C, .slice a n cap] 48)) 48 #[.int .i64 KR, .int .i64 KC, .slice ka m kcap]
  simp only [World.size_alloc] at hn
  have B_2 := Lib.hid (Below.next B_1.out bl)
  have K_2 := Lib.hid (K_1.out.below bl)
  clear bl B_1 K_1
  have L_2 := Lib.hid hn
  clear hn
  have bl := (Below.refl (((w).alloc (.cells #[.int .i64 R, .int .i64 C, .slice a n cap] 48)).alloc (.cells #[.int .i64 KR, .int .i64 KC, .slice ka m kcap] 48)).heap.size (((w).alloc (.cells #[.int .i64 R, .int .i64 C, .slice a n cap] 48)).alloc (.cells #[.int .i64 KR, .int .i64 KC, .slice ka m kcap] 48))).alloc (Nat.le_refl _) (.cells #[.int .i64 0, .int .i64 0, .slice none 0 0] 48)
  have hn := Blk.new (((w).alloc (.cells #[.int .i64 R, .int .i64 C, .slice a n cap] 48)).alloc (.cells #[.int .i64 KR, .int .i64 KC, .slice ka m kcap] 48)) 48 #[.int .i64 0, .int .i64 0, .slice none 0 0]
  simp only [World.size_alloc] at hn
  have B_3 := Lib.hid (Below.next B_2.out bl)
  have K_3 := Lib.hid (K_2.out.below bl)
  have L_3 := Lib.hid (L_2.out.below bl)
  clear bl B_2 K_2 L_2
  have Q_3 := Lib.hid hn
  clear hn
  generalize (((w).alloc (.cells #[.int .i64 R, .int .i64 C, .slice a n cap] 48)).alloc (.cells #[.int .i64 KR, .int .i64 KC, .slice ka m kcap] 48)).alloc (.cells #[.int .i64 0, .int .i64 0, .slice none 0 0] 48) = w3 at B_3 K_3 L_3 Q_3 ⊢
  obtain ⟨pK0, pK1, pK2, pK3⟩ := tb K_3.out
  obtain ⟨pL0, pL1, pL2, pL3⟩ := tb L_3.out
  go_wp2_with fail
  have HT := c_takeParts 60 #[.pointer (some ⟨w.heap.size + 1, 0, none⟩)] (fun top left => cdot zk (partZ z C top left KC KR)) R C a n cap z KR KC s w3 (HX.out.kept B_3.out) HN.out hR hC h1 h2 r1 r2 s1 s2 (x_convolve1 KR KC zk ka kcap m (w.heap.size + 1) z R C w3 (HK.out.kept B_3.out) HM.out (L_3.out.cell 2))
  rw [HNR.out, HNC.out] at HT
  refine HT.mono ?_
  clear HT pK0 pK1 pK2 pK3 pL0 pL1 pL2 pL3
  rintro e w4 ⟨b, cc, ys, rfl, hf, hy, bl⟩
  have HW := Lib.hid (hf.base (B' := w.heap.size) B_3.out.size)
  have HY := Lib.hid hy
  have B_4 := Lib.hid (Below.next B_3.out bl)
  have Q_4 := Lib.hid (Q_3.out.below bl)
  clear hf hy bl B_3
  obtain ⟨pQ0, pQ1, pQ2, pQ3⟩ := tb Q_4.out
  obtain ⟨fq0, fq1, fq2⟩ := tbf Q_4.out
  go_wp2_with fail
  exact bodyPost_ret (v := .agg #[.int .i64 NR, .int .i64 NC, .slice b ys.length cc]) (by simp [results, Try.results44, go_sem, pQ0, pQ1, pQ2]) rfl ⟨b, cc, ys, rfl, HW.out.off (store3 Q_4.out).2 Q_4.out (by decide), HY.out, ((B_4.out.setCell (by simp; omega) _).setCell (by simp; omega) _).setCell (by simp; omega) _⟩
theorem c_rowTensor (a : Option Addr) (n cap : Nat) (w : World) : Calls Try.prog 42 #[.slice a n cap] w fun e w' => e = .returned (.agg #[.int .i64 1, .int .i64 n, .slice a n cap]) ∧ Below w.heap.size w w' := by
  go_enter Try.func42, Try.ntmps42
  go_wp2_with fail
  exact bodyPost_ret (v := .agg #[.int .i64 1, .int .i64 n, .slice a n cap]) (by simp [results, Try.results42, go_sem]) rfl ⟨rfl, (Below.refl _ _).alloc (Nat.le_refl _) _⟩
end Go.Proofs.Ytlddonneccihiaa
