/-
  What is made of each part of an image, as the program takes them. Conditions: the numbers can be read.
-/
import Derived.Test.YtlddonneccihiaaPart
import Derived.Test.YtlddonneccihiaaEach
import Derived.Deep.LoopGhost
import Derived.Deep.AppendLies
import Derived.Deep.RegionLaw
import Derived.BigRegion
import Derived.Outline
namespace Go.Proofs.Ytlddonneccihiaa
open Go.RowKit Go.Deep Go.WideShapes Go.ChangeShapes

/-- how many parts lie in a direction -/
def steps (n k s : Nat) : Nat := (n - k) / s + 1
theorem steps_lt {n k s i : Nat} (hs : 1 ≤ s) (hk : k ≤ n) : i < steps n k s ↔ i * s + k ≤ n := by
  unfold steps
  rw [Nat.lt_succ_iff, Nat.le_div_iff_mul_le (by omega)]
  omega
def partsF (f : Nat → Nat → Nat) (s NC p : Nat) : Nat := f ((p / NC) * s) ((p % NC) * s)
theorem partsF_at {f : Nat → Nat → Nat} {s NC i j : Nat} (hj : j < NC) : partsF f s NC (i * NC + j) = f (i * s) (j * s) := by
  unfold partsF
  have h1 : (i * NC + j) % NC = j := by rw [Nat.mul_comm, Nat.mul_add_mod, Nat.mod_eq_of_lt hj]
  have h2 : (i * NC + j) / NC = i := by rw [Nat.mul_comm, Nat.mul_add_div (by omega), Nat.div_eq_of_lt hj, Nat.add_zero]
  rw [h1, h2]
theorem steps_one (n k s : Nat) : 1 ≤ steps n k s := Nat.le_add_left 1 _
theorem steps_le {n k s : Nat} (hn : n ≤ 16) (hk : 1 ≤ k) : steps n k s ≤ 16 := by
  unfold steps
  have := Nat.div_le_self (n - k) s
  by_cases h : n = 0
  · subst h; simp
  · omega
/-- so many numbers are taken, in so many rows -/
def TP (f : Nat → Nat) (rows cnt : Nat) (R C : Nat) (a : Option Addr) (n cap : Nat) (w wr : World) : Prop :=
  ∃ (b : Option Addr) (cp : Nat) (ys : List Nat), ys.length = cnt ∧ Blk wr (w.heap.size + 1 + 1) 48 #[.int .i64 rows, .int .i64 0, .slice b ys.length cp] ∧ OwnF wr w.heap.size b cp ys ∧ ys.map (canon .f32) = (List.range cnt).map f ∧ Below w.heap.size w wr ∧
    Blk wr w.heap.size 48 #[.int .i64 R, .int .i64 C, .slice a n cap] ∧ Blk wr (w.heap.size + 1) 48 #[.int .i64 0, .int .i64 0, .slice none 0 0]
theorem one_readsF {w : World} {T : TypeId} (u : Value) : Reads (w.alloc (.cells #[u] T)) (w.heap.size + 1) 1 (some ⟨w.heap.size, 0, none⟩) 1 [u] := by
  refine ⟨rfl, fun _ => ⟨_, rfl, by simp, fun j v hv => ?_⟩⟩
  rw [add_plain]
  have := (Blk.new w T #[u]).cell (0 + j)
  rw [this, Nat.zero_add]
  simpa using hv
theorem tp_app {f : Nat → Nat} {rows cnt R C : Nat} {a : Option Addr} {n cap : Nat} {w w3 w' : World} {b a' : Option Addr} {cp c' r : Nat} {T : TypeId} {ys : List Nat} (hy : ys.length = cnt)
    (kt : Blk w3 (w.heap.size + 1 + 1) 48 #[.int .i64 rows, .int .i64 0, .slice b ys.length cp]) (ho : OwnF w3 w.heap.size b cp ys) (he : ys.map (canon .f32) = (List.range cnt).map f) (hl : Below w.heap.size w w3)
    (k1 : Blk w3 w.heap.size 48 #[.int .i64 R, .int .i64 C, .slice a n cap]) (k2 : Blk w3 (w.heap.size + 1) 48 #[.int .i64 0, .int .i64 0, .slice none 0 0]) (hr : r < 2 ^ 32) (hc : canon .f32 r = f cnt)
    (hown : w'.ownsRow w.heap.size 26 1 (.slice a' (ys.length + 1) c') (ys.length + 1) (ys.map (Value.float .f32) ++ [.float .f32 r])) (hgr : (w3.alloc (.cells #[.float .f32 r] T)).grownBy w' (Value.ownBlock (.slice b ys.length cp))) :
    (w'.cell? ⟨w.heap.size + 1 + 1, 2, none⟩ = some (.slice b ys.length cp) ∧ w'.frozen? ⟨w.heap.size + 1 + 1, 2, none⟩ = false) ∧ TP f rows (cnt + 1) R C a n cap w (w'.setCell ⟨w.heap.size + 1 + 1, 2, none⟩ (.slice a' (ys.length + 1) c')) := by
  rw [ownBlock_slice] at hgr
  have bl := (Below.refl w3.heap.size w3).alloc (Nat.le_refl _) (.cells #[.float .f32 r] T)
  have ho1 := ho.kept bl
  have kt1 := (kt.below bl).apart hgr ho1 (by decide)
  have k11 := (k1.below bl).apart hgr ho1 (by decide)
  have k21 := (k2.below bl).apart hgr ho1 (by decide)
  have hl1 : Below w.heap.size w w' := (hl.trans (bl.mono hl.size)).grown hgr (Nat.le_trans hl.size bl.size) (fun g h => (ho1.lt g h).1)
  have st : w'.grownBy (w'.setCell ⟨w.heap.size + 1 + 1, 2, none⟩ (.slice a' (ys.length + 1) c')) (some (w.heap.size + 1 + 1)) := ⟨rfl, rfl, rfl, by simp, fun k _ hk => Below.heap_setCell w' ⟨w.heap.size + 1 + 1, 2, none⟩ _ k (fun e => hk (by simp [e]))⟩
  have ho2 : OwnF w' w.heap.size a' c' (ys ++ [r]) := by
    refine ⟨by simpa using hown, fun y hy' => ?_⟩
    rcases List.mem_append.1 hy' with h | h
    · exact ho.2 y h
    · simp at h; subst h; exact hr
  refine ⟨⟨kt1.cell 2, kt1.frozen 2⟩, a', c', ys ++ [r], by simp [hy], ?_, ho2.off st kt1 (by decide), ?_, hl1.setCell (by simp; omega) _, k11.off st (by omega), k21.off st (by omega)⟩
  · unfold Blk at kt1 ⊢
    simp [World.setCell, Array.getElem?_modify, kt1]
  · rw [List.map_append, he, List.range_succ, List.map_append]
    simp [hc]
theorem tp_row {f : Nat → Nat} {rows cnt R C : Nat} {a : Option Addr} {n cap : Nat} {w wr : World} (h : TP f rows cnt R C a n cap w wr) : TP f (rows + 1) cnt R C a n cap w (wr.setCell ⟨w.heap.size + 1 + 1, 0, none⟩ (.int .i64 ((rows : Int) + 1))) := by
  obtain ⟨b, cp, ys, hy, kt, ho, he, hl, k1, k2⟩ := h
  have st : wr.grownBy (wr.setCell ⟨w.heap.size + 1 + 1, 0, none⟩ (.int .i64 ((rows : Int) + 1))) (some (w.heap.size + 1 + 1)) := ⟨rfl, rfl, rfl, by simp, fun k _ hk => Below.heap_setCell wr ⟨w.heap.size + 1 + 1, 0, none⟩ _ k (fun e => hk (by simp [e]))⟩
  refine ⟨b, cp, ys, hy, ?_, ho.off st kt (by decide), he, hl.setCell (by simp; omega) _, k1.off st (by omega), k2.off st (by omega)⟩
  unfold Blk at kt ⊢
  simp [World.setCell, Array.getElem?_modify, kt]
theorem tp_end {f : Nat → Nat} {rows cols cnt : Nat} {w wr : World} {b : Option Addr} {cp : Nat} {ys : List Nat} {cs : Array Value} (ho : OwnF wr w.heap.size b cp ys) (he : ys.map (canon .f32) = (List.range cnt).map f) (hl : Below w.heap.size w wr)
    (kt : Blk wr (w.heap.size + 1 + 1) 48 cs) (k2 : Blk wr (w.heap.size + 1) 48 #[.int .i64 0, .int .i64 0, .slice none 0 0]) :
    RetV rows cols ((List.range cnt).map f) w (.returned (.agg #[.int .i64 rows, .int .i64 cols, .slice b ys.length cp])) ((((wr.setCell ⟨w.heap.size + 1 + 1, 1, none⟩ (.int .i64 cols)).setCell ⟨w.heap.size + 1, 0, none⟩ (.int .i64 rows)).setCell ⟨w.heap.size + 1, 1, none⟩ (.int .i64 cols)).setCell ⟨w.heap.size + 1, 2, none⟩ (.slice b ys.length cp)) := by
  have st : wr.grownBy (wr.setCell ⟨w.heap.size + 1 + 1, 1, none⟩ (.int .i64 cols)) (some (w.heap.size + 1 + 1)) := ⟨rfl, rfl, rfl, by simp, fun k _ hk => Below.heap_setCell wr ⟨w.heap.size + 1 + 1, 1, none⟩ _ k (fun e => hk (by simp [e]))⟩
  have k3 := k2.off st (by omega)
  exact ⟨b, cp, ys, rfl, (ho.off st kt (by decide)).off (store3 k3).2 k3 (by decide), he, (((hl.setCell (by simp; omega) _).setCell (by simp) _).setCell (by simp) _).setCell (by simp) _⟩
/-- what is asked of a function that makes a number of a part -/
def TakeOk (F : FuncId) (caps : Array Value) (f : Nat → Nat → Nat) (z : List Nat) (R C rr cc : Nat) (w : World) : Prop :=
  (∀ (xs : Array Value) (wr : World), (callFunc F xs).run Try.prog wr = .ok (.enter F xs) wr) ∧
  ∀ (top left : Nat) (b : Option Addr) (c : Nat) (wr : World), top + rr ≤ R → left + cc ≤ C → Below w.heap.size w wr → IsFloats .f32 wr b (rr * cc) c (partZ z C top left cc rr) → Calls Try.prog F (#[.slice b (rr * cc) c] ++ caps) wr (RetX (f top left) wr)
theorem parts_small {i j R C rr cc s : Nat} (hR : R ≤ 16) (hC : C ≤ 16) (h1 : 1 ≤ rr) (h2 : 1 ≤ cc) (hi : i < steps R rr s) (hj : j < steps C cc s) : i * steps C cc s + j < 256 := by
  have a1 : steps R rr s ≤ 16 := steps_le hR h1
  have a2 : steps C cc s ≤ 16 := steps_le hC h2
  have e1 : (i + 1) * steps C cc s ≤ steps R rr s * steps C cc s := Nat.mul_le_mul_right _ hi
  have e2 : (i + 1) * steps C cc s = i * steps C cc s + steps C cc s := by rw [Nat.add_mul, Nat.one_mul]
  have e3 : steps R rr s * steps C cc s ≤ 16 * 16 := Nat.mul_le_mul a1 a2
  omega
def RetPart (z : List Nat) (m : Nat) (w : World) (e : Ending) (w' : World) : Prop := ∃ b c, e = .returned (.slice b m c) ∧ IsFloats .f32 w' b m c z ∧ Below w.heap.size w w'
theorem c_partOf' (R C : Nat) (a : Option Addr) (n cap : Nat) (z : List Nat) (top left rr cc m : Nat) (w : World) (h : IsFloats .f32 w a n cap z) (hn : n = R * C) (hR : R ≤ 16) (hC : C ≤ 16) (h1 : top + rr ≤ R) (h2 : left + cc ≤ C) (c1 : 1 ≤ cc) (q1 : 1 ≤ rr) (hm : rr * cc = m) :
    Calls Try.prog 71 #[.agg #[.int .i64 R, .int .i64 C, .slice a n cap], .int .i64 top, .int .i64 left, .int .i64 rr, .int .i64 cc] w (RetPart (partZ z C top left cc rr) m w) := by
  have hl := (partZ_length (z := z) hC hR h1 h2 (h.2.2.1.trans hn) rr (Nat.le_refl _)).trans hm
  refine (c_partOf R C a n cap z top left rr cc w h hn hR hC h1 h2 c1 q1).mono ?_
  rintro e w' ⟨b, c, rfl, hf, hb⟩
  have hi := hf.isFloats
  rw [hl] at hi ⊢
  exact ⟨b, c, rfl, hi, hb⟩
set_option maxRecDepth 20000 in
set_option maxHeartbeats 4000000 in
theorem c_takeParts (F : FuncId) (caps : Array Value) (f : Nat → Nat → Nat) (R C : Nat) (a : Option Addr) (n cap : Nat) (z : List Nat) (rr cc s : Nat) (w : World) (h : IsFloats .f32 w a n cap z) (hn : n = R * C) (hR : R ≤ 16) (hC : C ≤ 16) (h1 : 1 ≤ rr) (h2 : 1 ≤ cc) (r1 : rr ≤ R) (r2 : cc ≤ C) (s1 : 1 ≤ s) (s2 : s ≤ 16) (hF : TakeOk F caps f z R C rr cc w) :
    Calls Try.prog 59 #[.agg #[.int .i64 R, .int .i64 C, .slice a n cap], .int .i64 rr, .int .i64 cc, .int .i64 s, .func (.func F) #[] caps] w (RetV (steps R rr s : Nat) (steps C cc s : Nat) ((List.range (steps R rr s * steps C cc s)).map (partsF f s (steps C cc s))) w) := by
  have HF := Lib.hid h
  have HN := Lib.hid hn
  have hE := hF.1
  have HC := Lib.hid hF.2
  have HLR := fun i => Lib.hid (steps_lt (n := R) (k := rr) (s := s) (i := i) s1 r1)
  have HLC := fun i => Lib.hid (steps_lt (n := C) (k := cc) (s := s) (i := i) s1 r2)
  have HSM := Lib.hid (fun i j hi hj => parts_small (i := i) (j := j) (s := s) hR hC h1 h2 hi hj)
  have hNC1 : 1 ≤ steps C cc s := steps_one ..
  have hNR1 : 1 ≤ steps R rr s := steps_one ..
  have hNR2 : steps R rr s ≤ 16 := steps_le hR h1
  have hNC2 : steps C cc s ≤ 16 := steps_le hC h2
  obtain ⟨NR, hNR⟩ : ∃ x, steps R rr s = x := ⟨_, rfl⟩
  obtain ⟨NC, hNC⟩ : ∃ x, steps C cc s = x := ⟨_, rfl⟩
  rw [hNR] at HLR HSM hNR1 hNR2 ⊢
  rw [hNC] at HLC HSM hNC1 hNC2 ⊢
  have HLR' := Lib.hid HLR
  have HLC' := Lib.hid HLC
  obtain ⟨m, hm⟩ : ∃ m, rr * cc = m := ⟨_, rfl⟩
  have HPART := Lib.hid (fun (Tp Lf : Nat) (hfit : Tp + rr ≤ R) (hfitj : Lf + cc ≤ C) (W : World) (hW : Below w.heap.size w W) => c_partOf' R C a n cap z Tp Lf rr cc m W (h.kept hW) hn hR hC hfit hfitj h2 h1 hm)
  rw [hm] at HC
  clear hm
  obtain ⟨i0, hi, hz0, hz1, hz2⟩ := info_parts info_f32
  have HI := Lib.hid hi
  have HZ0 := Lib.hid hz0
  have HZ1 := Lib.hid hz1
  have HZ2 := Lib.hid hz2
  clear h hn hF hi hz0 hz1 hz2 hNR hNC HLR HLC
  go_enter Try.func59, Try.ntmps59
  go_wp2_with fail
  go_step3
  go_wp2_with fail
  go_step3
  go_wp2_with fail
  have B_0 := Lib.hid (Below.refl w.heap.size w)
  have bl := (Below.refl (w).heap.size (w)).alloc (Nat.le_refl _) (.cells #[.int .i64 R, .int .i64 C, .slice a n cap] 48)
  have hn := Blk.new (w) 48 #[.int .i64 R, .int .i64 C, .slice a n cap]
  have B_1 := Lib.hid (Below.next B_0.out bl)
  clear bl B_0
  have K_1 := Lib.hid hn
  clear hn
  have bl := (Below.refl ((w).alloc (.cells #[.int .i64 R, .int .i64 C, .slice a n cap] 48)).heap.size ((w).alloc (.cells #[.int .i64 R, .int .i64 C, .slice a n cap] 48))).alloc (Nat.le_refl _) (.cells #[.int .i64 0, .int .i64 0, .slice none 0 0] 48)
  have hn := Blk.new ((w).alloc (.cells #[.int .i64 R, .int .i64 C, .slice a n cap] 48)) 48 #[.int .i64 0, .int .i64 0, .slice none 0 0]
  simp only [World.size_alloc] at hn
  have B_2 := Lib.hid (Below.next B_1.out bl)
  have K_2 := Lib.hid (K_1.out.below bl)
  clear bl B_1 K_1
  have Q_2 := Lib.hid hn
  clear hn
  have bl := (Below.refl (((w).alloc (.cells #[.int .i64 R, .int .i64 C, .slice a n cap] 48)).alloc (.cells #[.int .i64 0, .int .i64 0, .slice none 0 0] 48)).heap.size (((w).alloc (.cells #[.int .i64 R, .int .i64 C, .slice a n cap] 48)).alloc (.cells #[.int .i64 0, .int .i64 0, .slice none 0 0] 48))).alloc (Nat.le_refl _) (.cells #[.int .i64 0, .int .i64 0, .slice none 0 0] 48)
  have hn := Blk.new (((w).alloc (.cells #[.int .i64 R, .int .i64 C, .slice a n cap] 48)).alloc (.cells #[.int .i64 0, .int .i64 0, .slice none 0 0] 48)) 48 #[.int .i64 0, .int .i64 0, .slice none 0 0]
  simp only [World.size_alloc] at hn
  have HTP := Lib.hid (show TP (partsF f s NC) 0 0 R C a n cap w ((((w).alloc (.cells #[.int .i64 R, .int .i64 C, .slice a n cap] 48)).alloc (.cells #[.int .i64 0, .int .i64 0, .slice none 0 0] 48)).alloc (.cells #[.int .i64 0, .int .i64 0, .slice none 0 0] 48)) from ⟨none, 0, [], rfl, hn, nil_own _ _, rfl, Below.next B_2.out bl, K_2.out.below bl, Q_2.out.below bl⟩)
  clear bl hn B_2 K_2 Q_2
  generalize (((w).alloc (.cells #[.int .i64 R, .int .i64 C, .slice a n cap] 48)).alloc (.cells #[.int .i64 0, .int .i64 0, .slice none 0 0] 48)).alloc (.cells #[.int .i64 0, .int .i64 0, .slice none 0 0] 48) = w3 at HTP ⊢
  go_loopg [12] NR (fun g top wr => ∃ i Tp : Nat, i + g = NR ∧ i * s = Tp ∧ top = .int .i64 Tp ∧ TP (partsF f s NC) i (i * NC) R C a n cap w wr)
  case atStart => exact ⟨0, 0, by omega, by rw [Nat.zero_mul], rfl, by rw [Nat.zero_mul]; exact HTP.out⟩
  case round =>
    obtain ⟨i, Tp, hig, hTp, rfl, htp⟩ := hrel
    have HT := Lib.hid htp
    have hT0 : (0 : Int) ≤ (Tp : Int) := by omega
    cases gk with
    | zero =>
      obtain rfl : i = NR := by omega
      have hbig : R < Tp + rr := by
        have := (HLR'.out i).out
        rw [hTp] at this
        omega
      have hTs : Tp ≤ 16 * 16 := by rw [← hTp]; exact Nat.mul_le_mul hNR2 s2
      have hbig' : (Tp : Int) + (rr : Int) > (R : Int) := by omega
      have HTPE := Lib.hid hTp
      obtain ⟨b, cp, ys, hy, kt, ho, he, hl, k1, k2⟩ := htp
      have HY := Lib.hid hy
      have HO := Lib.hid ho
      have HE := Lib.hid he
      have HL := Lib.hid hl
      have HK2 := Lib.hid k2
      have HKT := Lib.hid kt
      obtain ⟨q0, q1, q2, q3⟩ := tb kt
      obtain ⟨e0, e1, e2⟩ := tbf kt
      obtain ⟨p0, p1, p2, p3⟩ := tb k1
      obtain ⟨v0, v1, v2, v3⟩ := tb k2
      obtain ⟨u0, u1, u2⟩ := tbf k2
      have hlen : (ys.length : Int) = ((i * NC : Nat) : Int) := by rw [hy]
      have hdiv : ((ys.length : Int)) / (i : Int) = (NC : Int) := by
        rw [hlen, Int.natCast_mul, Int.mul_ediv_cancel_left _ (by omega)]
      have hdiv' : ((ys.length : Int)).tdiv (i : Int) = (NC : Int) := by
        rw [Int.tdiv_eq_ediv_of_nonneg (by omega)]; exact hdiv
      have hy256 : (ys.length : Int) ≤ 256 := by
        rw [hlen]
        have := Nat.mul_le_mul hNR2 hNC2
        omega
      have hi0 : ¬ i = 0 := by omega
      have hi1 : (0 : Int) < (i : Int) := by omega
      clear hlen hy kt ho he hl k1 k2 hTp HT
      go_wp2_with fail
      refine wp_loop_rounds 1 ?_
      rw [rounds_succ]
      go_wp2_with fail
      try rw [Exit.noGoto_ret]
      exact bodyPost_ret (v := .agg #[.int .i64 i, .int .i64 NC, .slice b ys.length cp]) (by simp [results, Try.results59, go_sem, v0, v1, v2]) rfl (tp_end HO.out HE.out HL.out HKT.out HK2.out)
    | succ g =>
      have hlt : i < NR := by omega
      have hfit : Tp + rr ≤ R := by rw [← hTp]; exact (HLR'.out i).out.1 hlt
      have hTn : Tp ≤ 16 := by omega
      have hfit' : ¬ ((R : Int) < (Tp : Int) + (rr : Int)) := by omega
      have hfd : decide ((R : Int) < (Tp : Int) + (rr : Int)) = false := by simpa using hfit'
      have HTPE := Lib.hid hTp
      clear hTp htp
      obtain ⟨wo, hwo⟩ : ∃ wo : World, wo = wr := ⟨_, rfl⟩
      subst hwo
      go_wp2_with fail
      go_loopg [13] NC (fun g2 left wq => ∃ j Lf : Nat, j + g2 = NC ∧ j * s = Lf ∧ left = .int .i64 Lf ∧ TP (partsF f s NC) i (i * NC + j) R C a n cap w wq)
      case atStart => exact ⟨0, 0, by omega, by rw [Nat.zero_mul], rfl, by rw [Nat.add_zero]; exact HT.out⟩
      case round =>
        obtain ⟨j, Lf, hjg, hLf, rfl, htp⟩ := hrel
        have HT2 := Lib.hid htp
        have hL0 : (0 : Int) ≤ (Lf : Int) := by omega
        cases gk with
        | zero =>
          obtain rfl : j = NC := by omega
          have hbig : C < Lf + cc := by
            have := (HLC'.out j).out
            rw [hLf] at this
            omega
          have hLs : Lf ≤ 16 * 16 := by rw [← hLf]; exact Nat.mul_le_mul hNC2 s2
          have hbig' : (Lf : Int) + (cc : Int) > (C : Int) := by omega
          have HROW := Lib.hid (tp_row HT2.out)
          obtain ⟨b, cp, ys, hy, kt, ho, he, hl, k1, k2⟩ := htp
          obtain ⟨q0, q1, q2, q3⟩ := tb kt
          obtain ⟨e0, e1, e2⟩ := tbf kt
          obtain ⟨p0, p1, p2, p3⟩ := tb k1
          have hir : (i : Int) ≤ 256 := by omega
          clear hy kt ho he hl k1 k2 hLf
          go_wp2_with fail
          go_roundg g
          case rel => exact ⟨i + 1, Tp + s, by omega, by rw [Nat.add_mul, Nat.one_mul, HTPE.out], by go_num, by rw [show (i + 1) * j = i * j + j by rw [Nat.add_mul, Nat.one_mul]]; exact HROW.out⟩
          case measure => omega
        | succ g2 =>
          have hltj : j < NC := by omega
          have hfitj : Lf + cc ≤ C := by rw [← hLf]; exact (HLC'.out j).out.1 hltj
          have hfitj' : ¬ ((C : Int) < (Lf : Int) + (cc : Int)) := by omega
          have hfjd : decide ((C : Int) < (Lf : Int) + (cc : Int)) = false := by simpa using hfitj'
          have HVAL := Lib.hid (show f Tp Lf = partsF f s NC (i * NC + j) by rw [partsF_at hltj, HTPE.out, hLf])
          have HLFE := Lib.hid hLf
          obtain ⟨b, cp, ys, hy, kt, ho, he, hl, k1, k2⟩ := htp
          have HY := Lib.hid hy
          have HO := Lib.hid ho
          have HE := Lib.hid he
          have HL := Lib.hid hl
          have KT := Lib.hid kt
          have K1 := Lib.hid k1
          have K2 := Lib.hid k2
          have A0 := Lib.hid (show ys.length + 1 ≤ 256 by rw [hy]; have := HSM.out i j hlt hltj; omega)
          obtain ⟨q0, q1, q2, q3⟩ := tb kt
          obtain ⟨e0, e1, e2⟩ := tbf kt
          obtain ⟨p0, p1, p2, p3⟩ := tb k1
          have A1 := Lib.hid (show ys.length + 1 ≤ maxLen by have := A0.out; unfold maxLen; omega)
          have A2 := Lib.hid (show (ys.length + 1) * 4 ≤ 140737488355328 by have := A0.out; omega)
          clear hy kt ho he hl k1 k2 hLf
          go_wp2_with fail
          have HLd := Lib.hid (HL.out.drew)
          go_region_law (first
            | (refine step_append_any _ rfl (.tmp 39) (.tmp 48) 38 rfl w.heap.size 26 i0 (.float .f32 0) 1 4 Try.underlying38 HI.out HZ0.out HZ1.out HZ2.out rfl Nat.one_pos (.slice b ys.length cp) ys.length (ys.map (Value.float .f32)) rfl (HO3.out.kept ((Below.refl w3.heap.size w3).alloc (Nat.le_refl _) _)).1 (w3.heap.size + 1) (some ⟨w3.heap.size, 0, none⟩) 1 1 [.float .f32 r] rfl (one_readsF _) (one_f32 _) A1.out A2.out (Nat.le_trans HL3.out.size ((Below.refl w3.heap.size w3).alloc (Nat.le_refl _) _).size) ?_
               intro v' w' hown hgr hat
               obtain ⟨a', c', rfl⟩ := ownsRow_slice hown
               obtain ⟨⟨x1, x2⟩, hmade⟩ := tp_app HY.out KT3.out HO3.out HE.out HL3.out K13.out K23.out HRL.out (HR.out.trans HVAL.out) hown hgr
               have HMD := Lib.hid hmade
               clear hown hgr hat hmade q0 q1 q2 q3 e0 e1 e2 p0 p1 p2 p3)
            | (go_simp
               go_at_call 71
               refine (HPART.out Tp Lf hfit hfitj _ HLd.out).mono ?_
               rintro e w2 ⟨b2, c2, rfl, hf, hb⟩
               have hb1 : Below wr.heap.size wr w2 := ((Below.refl _ _).drew).trans hb
               have HF2 := Lib.hid hf
               have HL2 := Lib.hid (Below.next HL.out hb1)
               have KT2 := Lib.hid (KT.out.below hb1)
               have K12 := Lib.hid (K1.out.below hb1)
               have K22 := Lib.hid (K2.out.below hb1)
               have HO2 := Lib.hid (HO.out.kept hb1)
               clear hf hb hb1 q0 q1 q2 q3 e0 e1 e2 p0 p1 p2 p3
               obtain ⟨q0, q1, q2, q3⟩ := tb KT2.out
               obtain ⟨e0, e1, e2⟩ := tbf KT2.out
               obtain ⟨p0, p1, p2, p3⟩ := tb K12.out)
            | (go_simp
               refine (HC.out Tp Lf b2 c2 w2 hfit hfitj HL2.out HF2.out).mono ?_
               rintro e w3 ⟨r, rfl, hr, hrl, hb⟩
               have HR := Lib.hid hr
               have HRL := Lib.hid hrl
               have HL3 := Lib.hid (Below.next HL2.out hb)
               have KT3 := Lib.hid (KT2.out.below hb)
               have K13 := Lib.hid (K12.out.below hb)
               have K23 := Lib.hid (K22.out.below hb)
               have HO3 := Lib.hid (HO2.out.kept hb)
               clear hr hrl hb q0 q1 q2 q3 e0 e1 e2 p0 p1 p2 p3
               obtain ⟨q0, q1, q2, q3⟩ := tb KT3.out
               obtain ⟨e0, e1, e2⟩ := tbf KT3.out
               obtain ⟨p0, p1, p2, p3⟩ := tb K13.out))
          all_goals
            go_wp2_with fail
            go_roundg g2
            case rel => exact ⟨j + 1, Lf + s, by omega, by rw [Nat.add_mul, Nat.one_mul, HLFE.out], by go_num, HMD.out⟩
            case measure => omega
end Go.Proofs.Ytlddonneccihiaa
