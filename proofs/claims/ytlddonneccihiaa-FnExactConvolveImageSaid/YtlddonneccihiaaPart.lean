/-
  A part of an image, row by row, as the program takes it. Conditions: the numbers can be read.
-/
import Derived.Test.YtlddonneccihiaaFun
namespace Go.Proofs.Ytlddonneccihiaa
open Go.RowKit Go.Deep Go.WideShapes Go.ChangeShapes

/-- the first k rows of a part of cc columns, from a top left number on -/
def partZ (z : List Nat) (C top left cc k : Nat) : List Nat := (List.range k).flatMap fun i => (z.drop ((top + i) * C + left)).take cc
theorem partZ_succ (z : List Nat) (C top left cc k : Nat) : partZ z C top left cc (k + 1) = partZ z C top left cc k ++ (z.drop ((top + k) * C + left)).take cc := by
  unfold partZ; rw [List.range_succ, List.flatMap_append]; simp
theorem part_fits {R C top left rr cc n k : Nat} (hC : C ≤ 16) (hR : R ≤ 16) (h1 : top + rr ≤ R) (h2 : left + cc ≤ C) (hn : n = R * C) (hk : k < rr) : (top + k) * C + left + cc ≤ n ∧ n ≤ 256 ∧ ((top : Int) + (k : Int)) * (C : Int) = (((top + k) * C : Nat) : Int) ∧ (top + k) * C ≤ 256 := by
  have e1 : (top + k + 1) * C ≤ R * C := Nat.mul_le_mul_right C (by omega)
  have e2 : (top + k + 1) * C = (top + k) * C + C := by rw [Nat.add_mul (top + k), Nat.one_mul]
  have e3 : R * C ≤ 16 * 16 := Nat.mul_le_mul hR hC
  refine ⟨by omega, by omega, ?_, by omega⟩
  rw [Int.natCast_mul, Int.natCast_add]
theorem partZ_length {z : List Nat} {R C top left rr cc : Nat} (hC : C ≤ 16) (hR : R ≤ 16) (h1 : top + rr ≤ R) (h2 : left + cc ≤ C) (hn : z.length = R * C) (k : Nat) (hk : k ≤ rr) : (partZ z C top left cc k).length = k * cc := by
  induction k with
  | zero => simp [partZ]
  | succ k ih =>
    have := (part_fits hC hR h1 h2 hn (k := k) (by omega)).1
    have e : (k + 1) * cc = k * cc + cc := by rw [Nat.add_mul, Nat.one_mul]
    rw [partZ_succ, List.length_append, ih (by omega), e, List.length_take, List.length_drop]
    omega
theorem add_next {w wr w5 : World} {b a' : Option Addr} {cp c' m g1 : Nat} {cs1 : Array Value} {tl cl : List Nat} (ho : OwnF wr w.heap.size b cp tl) (hc : ∀ y ∈ cl, y < 2 ^ 32) (hm : cl.length = m)
    (hown : w5.ownsRow w.heap.size 26 1 (.slice a' (tl.length + m) c') (tl.length + m) (tl.map (Value.float .f32) ++ cl.map (Value.float .f32))) (hgr : wr.grownBy w5 (Value.ownBlock (.slice b tl.length cp)))
    (hl : Below w.heap.size w wr) (k1 : Blk wr g1 48 cs1) :
    OwnF w5 w.heap.size a' c' (tl ++ cl) ∧ Below w.heap.size w w5 ∧ Blk w5 g1 48 cs1 := by
  subst hm
  rw [ownBlock_slice] at hgr
  refine ⟨⟨by simpa using hown, fun y hy => ?_⟩, hl.grown hgr hl.size (fun g h => (ho.lt g h).1), k1.apart hgr ho (by decide)⟩
  rcases List.mem_append.1 hy with h | h
  · exact ho.2 y h
  · exact hc y h
def PartRel (z : List Nat) (R C : Nat) (a : Option Addr) (n cap top left rr cc : Nat) (w : World) (s i : Value) (wr : World) : Prop :=
  ∃ (k T : Nat) (b : Option Addr) (cp : Nat), top + k = T ∧ k ≤ rr ∧ i = .int .i64 T ∧ s = .slice b (partZ z C top left cc k).length cp ∧ OwnF wr w.heap.size b cp (partZ z C top left cc k) ∧ Below w.heap.size w wr ∧ Blk wr w.heap.size 48 #[.int .i64 R, .int .i64 C, .slice a n cap]
set_option maxRecDepth 20000 in
set_option maxHeartbeats 1000000 in
theorem c_partOf (R C : Nat) (a : Option Addr) (n cap : Nat) (z : List Nat) (top left rr cc : Nat) (w : World) (h : IsFloats .f32 w a n cap z) (hn : n = R * C) (hR : R ≤ 16) (hC : C ≤ 16) (h1 : top + rr ≤ R) (h2 : left + cc ≤ C) (c1 : 1 ≤ cc) (q1 : 1 ≤ rr) :
    Calls Try.prog 71 #[.agg #[.int .i64 R, .int .i64 C, .slice a n cap], .int .i64 top, .int .i64 left, .int .i64 rr, .int .i64 cc] w (RetRow (partZ z C top left cc rr) w) := by
  have HF := Lib.hid h
  have HN := Lib.hid hn
  have HLEN := Lib.hid (fun k (hk : k ≤ rr) => partZ_length (z := z) (left := left) (cc := cc) hC hR h1 h2 (h.2.2.1.trans hn) k hk)
  have HSUC := Lib.hid (partZ_succ z C top left cc)
  obtain ⟨i0, hi, hz0, hz1, hz2⟩ := info_parts info_f32
  have HI := Lib.hid hi
  have HZ0 := Lib.hid hz0
  have HZ1 := Lib.hid hz1
  have HZ2 := Lib.hid hz2
  have hcap := h.1
  have hcm : cap ≤ 9223372036854775807 := by have := h.2.1; unfold maxLen at this; omega
  have CM := Lib.hid h.2.1
  clear h hn hi hz0 hz1 hz2
  go_enter Try.func71, Try.ntmps71
  go_wp2_with fail
  have bl := (Below.refl w.heap.size w).alloc (Nat.le_refl _) (.cells #[.int .i64 R, .int .i64 C, .slice a n cap] 48)
  have k1 := Blk.new w 48 #[.int .i64 R, .int .i64 C, .slice a n cap]
  have B_1 := Lib.hid bl
  have K_1 := Lib.hid k1
  clear bl k1
  go_loopw [11, 12] (fun s i wr => PartRel z R C a n cap top left rr cc w s i wr) (fun _ i _ => top + rr - (intOf i).toNat)
  case atStart => exact ⟨0, top, none, 0, rfl, Nat.zero_le _, rfl, rfl, nil_own _ _, B_1.out, K_1.out⟩
  case round =>
    obtain ⟨k, T, b, cp, hT, hk, rfl, rfl, ho, hbl, kk⟩ := hrel
    have HO := Lib.hid ho
    have HL := Lib.hid hbl
    have K_2 := Lib.hid kk
    have hT0 : (0 : Int) ≤ (T : Int) := by omega
    obtain ⟨p0, p1, p2, p3⟩ := tb kk
    have u1 : IntKind.i64.wrap ((top : Int) + (rr : Int)) = (top : Int) + (rr : Int) := IntWalk.i64_in _ (by omega)
    clear ho hbl kk
    by_cases hlt : k < rr
    · have hlt' : (T : Int) < (top : Int) + (rr : Int) := by omega
      obtain ⟨f1, f2, f3, f4⟩ := part_fits hC hR h1 h2 HN.out hlt
      obtain ⟨P, hP⟩ : ∃ P, (top + k) * C = P := ⟨_, rfl⟩
      have hP2 : (T : Int) * (C : Int) = (P : Int) := by rw [← hP, ← f3, ← hT]; push_cast; rfl
      rw [hP] at f1 f4
      obtain ⟨pb, off, rfl⟩ : ∃ pb off, a = some ⟨pb, off, none⟩ := by
        rcases HF.out.2.2.2.2 with h' | ⟨b', off', rfl, _⟩
        · omega
        · exact ⟨b', off', rfl⟩
      obtain ⟨lo, hlo⟩ : ∃ lo, P + left = lo := ⟨_, rfl⟩
      have hPl : (P : Int) + (left : Int) = (lo : Int) := by omega
      have hhi : lo + cc ≤ n := by omega
      have v1 : (lo : Int) + (cc : Int) ≤ (n : Int) := by omega
      have v2 : (lo : Int) + (cc : Int) ≤ (cap : Int) := by omega
      have v3 : (lo : Int) < (lo : Int) + (cc : Int) := by omega
      have v4 : ((lo : Int) + (cc : Int)).toNat = lo + cc := by omega
      have hne : ¬ cap = lo := by omega
      have fP := (HF.out.kept HL.out).part lo (lo + cc) (by omega) hhi (cap - lo) (by omega) (by have := CM.out; omega)
      rw [Nat.add_sub_cancel_left] at fP
      have FP : Hid (IsFloats .f32 wr (some ⟨pb, off + lo, none⟩) cc (cap - lo) ((z.drop lo).take cc)) := Lib.hid (by simpa [add_plain] using fP)
      have HS2 := Lib.hid (show partZ z C top left cc (k + 1) = partZ z C top left cc k ++ (z.drop lo).take cc by rw [HSUC.out, hP, hlo])
      have HTL := Lib.hid (HLEN.out k hk)
      have hkc : k * cc + cc ≤ 256 := by
        have e1 : (k + 1) * cc ≤ rr * cc := Nat.mul_le_mul_right cc hlt
        have e2 : (k + 1) * cc = k * cc + cc := by rw [Nat.add_mul, Nat.one_mul]
        have e3 : rr * cc ≤ 16 * 16 := Nat.mul_le_mul (by omega) (by omega)
        omega
      have HCL := Lib.hid FP.out.2.2.1
      have A1 := Lib.hid (show (partZ z C top left cc k).length + cc ≤ 256 by rw [HLEN.out k hk]; exact hkc)
      obtain ⟨tl, htl⟩ : ∃ tl, partZ z C top left cc k = tl := ⟨_, rfl⟩
      obtain ⟨cl, hcl⟩ : ∃ cl, (z.drop lo).take cc = cl := ⟨_, rfl⟩
      rw [htl] at HO HS2 HTL A1 ⊢
      rw [hcl] at FP HS2 HCL
      have HT := Lib.hid hT
      clear fP htl hcl hkc hP f1 f2 f3 f4 hT hlo
      go_wp2_with (at_builtin; refine wpList_append_any _ rfl (.tmp 28) (.tmp 35) _ rfl w.heap.size 26 i0 _ 1 4 Try.underlying38 HI.out HZ0.out HZ1.out HZ2.out rfl (by omega) (.slice b tl.length cp) tl.length _ rfl HO.out.1 _ _ cc (cap - lo) _ rfl FP.out.reads (ones_f32 _) ?c1 ?c2 (HL.out.size) ?_)
      case c1 => have := A1.out; unfold maxLen; omega
      case c2 => have := A1.out; omega
      intro v' w5 hown hgr hat
      obtain ⟨a', c', rfl⟩ := ownsRow_slice hown
      have HNX := Lib.hid (add_next HO.out FP.out.2.2.2.1 HCL.out hown hgr HL.out K_2.out)
      clear hown hgr hat p0 p1 p2 p3
      go_wp2_with fail
      go_roundw
      case rel =>
        obtain ⟨t1, t2, t3⟩ := HNX.out
        refine ⟨k + 1, T + 1, a', c', by have := HT.out; omega, by omega, by go_num, ?_, ?_, t2, t3⟩
        · rw [HS2.out, List.length_append, HCL.out]
        · rw [HS2.out]; exact t1
      case measure => have := HT.out; simp [intOf]; omega
    · obtain rfl : k = rr := by omega
      have hge : ¬ (T : Int) < (top : Int) + (k : Int) := by omega
      clear hT
      go_wp2_with fail
      go_ret
      exact ⟨b, cp, rfl, HO.out, HL.out⟩
end Go.Proofs.Ytlddonneccihiaa
