/-
  Sums of products by blocks, as the program makes them. Conditions: the lists' elements can be read.
-/
import Derived.Test.YtkfpaehalfjhhaaTMatMul
import Derived.Deep.RegionWith
namespace Go.Proofs.Ytkfpaehalfjhhaa
open Go.RowKit Go.Deep Go.WideShapes Go.ChangeShapes

def blkPart (xs ys : List Nat) (f B : Nat) : Nat := cdot ((xs.drop f).take B) ((ys.drop f).take B)
def cblk (xs ys : List Nat) (B : Nat) : Nat → Nat
  | 0 => 0
  | t + 1 => cop .add .f32 (cblk xs ys B t) (blkPart xs ys (t * B) B)
def bdot (B : Nat) (xs ys : List Nat) : Nat := cblk xs ys B ((xs.length + B - 1) / B)
theorem blk_exit {M B t : Nat} (_hB : 1 ≤ B) (h1 : t * B < M + B) (h2 : M ≤ t * B) : (M + B - 1) / B = t := by
  refine Nat.div_eq_of_lt_le (by omega) ?_
  rw [Nat.add_mul, Nat.one_mul]; omega
theorem take_part {xs : List Nat} {F T B n : Nat} (hn : xs.length = n) (_hF : F ≤ n) (hT : T = min (F + B) n) : (xs.drop F).take (T - F) = (xs.drop F).take B := by
  subst hT
  by_cases h : F + B ≤ n
  · rw [Nat.min_eq_left h, Nat.add_sub_cancel_left]
  · rw [Nat.min_eq_right (by omega), List.take_of_length_le (by simp; omega), List.take_of_length_le (by simp; omega)]
def BlkRel (xs ys : List Nat) (n B : Nat) (w : World) (s i : Value) (wr : World) : Prop :=
  ∃ (t r m F : Nat), t * B = F ∧ F < n + B ∧ i = .int .i64 F ∧ s = .float .f32 r ∧ canon .f32 r = cblk xs ys B t ∧ r < 2 ^ 32 ∧ wr = w.drewN m
theorem blk_next {xs ys : List Nat} {B t r p : Nat} {w : World} (h1 : canon .f32 r = cblk xs ys B t) (h2 : canon .f32 p = blkPart xs ys (t * B) B) : canon .f32 (fval .add .f32 r p w) = cblk xs ys B (t + 1) := by
  rw [canon_fval, h1, h2]; rfl
theorem canon_cblk0 (xs ys : List Nat) (B : Nat) : canon .f32 0 = cblk xs ys B 0 := canon_zero
set_option maxRecDepth 20000 in
set_option maxHeartbeats 2000000 in
theorem c_dotInBlocks (a b : Option Addr) (ca cb n B : Nat) (xs ys : List Nat) (w : World) (hx : IsFloats .f32 w a n ca xs) (hy : IsFloats .f32 w b n cb ys) (hn : n ≤ 16) (hB1 : 1 ≤ B) (hB : B ≤ 16) :
    Calls Try.prog 58 #[.slice a n ca, .slice b n cb, .int .i64 B] w (RetF .f32 (bdot B xs ys) w) := by
  have HX := Lib.hid hx
  have HY := Lib.hid hy
  have HLX := Lib.hid hx.2.2.1
  have HLY := Lib.hid hy.2.2.1
  have hca : n ≤ ca := hx.1
  have hcb : n ≤ cb := hy.1
  have hcam : ca ≤ 9223372036854775807 := by have := hx.2.1; unfold maxLen at this; omega
  have hcbm : cb ≤ 9223372036854775807 := by have := hy.2.1; unfold maxLen at this; omega
  clear hx hy
  go_enter Try.func58, Try.ntmps58
  go_wp2_with fail
  go_loopw [7, 8] (fun s i wr => BlkRel xs ys n B w s i wr) (fun _ i _ => n + B - (intOf i).toNat)
  case atStart => exact ⟨0, 0, 0, 0, by rw [Nat.zero_mul], by omega, rfl, rfl, canon_cblk0 xs ys B, by decide, rfl⟩
  case round =>
    obtain ⟨t, r, m, F, htB, hF, rfl, rfl, hr, hr2, rfl⟩ := hrel
    have HT := Lib.hid htB
    have HR := Lib.hid hr
    have HR2 := Lib.hid hr2
    have hF0 : (0 : Int) ≤ (F : Int) := by omega
    clear htB hr hr2
    by_cases hlt : F < n
    · have hlt' : (F : Int) < (n : Int) := by omega
      have hne : ¬ ca = F := by omega
      have hne2 : ¬ cb = F := by omega
      obtain ⟨pb, off, rfl⟩ : ∃ pb off, a = some ⟨pb, off, none⟩ := by
        rcases HX.out.2.2.2.2 with h' | ⟨b', off', rfl, _⟩
        · omega
        · exact ⟨b', off', rfl⟩
      obtain ⟨qb, off2, rfl⟩ : ∃ qb off2, b = some ⟨qb, off2, none⟩ := by
        rcases HY.out.2.2.2.2 with h' | ⟨b', off', rfl, _⟩
        · omega
        · exact ⟨b', off', rfl⟩
      by_cases hc : (F : Int) + (B : Int) ≤ (n : Int)
      · have hT1' : (F : Int) < (F : Int) + (B : Int) := by omega
        have hT2' : (F : Int) + (B : Int) ≤ (n : Int) := by omega
        have hTa : (F : Int) + (B : Int) ≤ (ca : Int) := by omega
        have hTb : (F : Int) + (B : Int) ≤ (cb : Int) := by omega
        have k1 : IntKind.i64.wrap ((F : Int) + (B : Int)) = (F : Int) + (B : Int) := IntWalk.i64_in _ (by omega)
        have k2 : ((F : Int) + (B : Int)).toNat = F + B := by omega
        have fX := (HX.out.kept (below_drewN (Below.refl _ _) m)).part F (F + B) (by omega) (by omega) (ca - F) (by omega) (by have := HX.out.2.1; omega)
        have fY := (HY.out.kept (below_drewN (Below.refl _ _) m)).part F (F + B) (by omega) (by omega) (cb - F) (by omega) (by have := HY.out.2.1; omega)
        rw [take_part HLX.out (by omega) (T := (F + B)) (B := B) (by omega)] at fX
        rw [take_part HLY.out (by omega) (T := (F + B)) (B := B) (by omega)] at fY
        have FX : Hid (IsFloats .f32 (w.drewN m) (some ⟨pb, off + F, none⟩) (B) (ca - F) ((xs.drop F).take B)) := Lib.hid (by simpa [add_plain] using fX)
        have FY : Hid (IsFloats .f32 (w.drewN m) (some ⟨qb, off2 + F, none⟩) (B) (cb - F) ((ys.drop F).take B)) := Lib.hid (by simpa [add_plain] using fY)
        clear fX fY
        obtain ⟨wd, hwd⟩ : ∃ wd, w.drewN m = wd := ⟨_, rfl⟩
        have HWD := Lib.hid hwd
        rw [hwd] at FX FY ⊢
        clear hwd
        go_wp2_with fail
        go_region_with (go_at_call 70; refine (c_dotIn32 _ _ (B) (ca - F) (cb - F) _ _ _ (FX.out.kept ((Below.refl wd.heap.size wd).drew)) (FY.out.kept ((Below.refl wd.heap.size wd).drew))).mono ?_; rintro e wz ⟨p, q, hp, hpl, rfl, rfl⟩; have HP := Lib.hid hp; clear hp hpl)
        all_goals
          go_wp2_with fail
          go_roundw
          case rel => exact ⟨t + 1, _, _, F + B, by rw [Nat.add_mul, Nat.one_mul, HT.out], by omega, by go_num, rfl, blk_next HR.out (by rw [HT.out]; exact HP.out), fval_lt .add .f32 _ _ _, by rw [← HWD.out]; exact World.drewN_drewN _ _ _⟩
          case measure => simp [intOf]; omega
      · have hT1' : (F : Int) < (n : Int) := by omega
        have hT2' : (n : Int) ≤ (n : Int) := by omega
        have hTa : (n : Int) ≤ (ca : Int) := by omega
        have hTb : (n : Int) ≤ (cb : Int) := by omega
        have fX := (HX.out.kept (below_drewN (Below.refl _ _) m)).part F n (by omega) (by omega) (ca - F) (by omega) (by have := HX.out.2.1; omega)
        have fY := (HY.out.kept (below_drewN (Below.refl _ _) m)).part F n (by omega) (by omega) (cb - F) (by omega) (by have := HY.out.2.1; omega)
        rw [take_part HLX.out (by omega) (T := n) (B := B) (by omega)] at fX
        rw [take_part HLY.out (by omega) (T := n) (B := B) (by omega)] at fY
        have FX : Hid (IsFloats .f32 (w.drewN m) (some ⟨pb, off + F, none⟩) (n - F) (ca - F) ((xs.drop F).take B)) := Lib.hid (by simpa [add_plain] using fX)
        have FY : Hid (IsFloats .f32 (w.drewN m) (some ⟨qb, off2 + F, none⟩) (n - F) (cb - F) ((ys.drop F).take B)) := Lib.hid (by simpa [add_plain] using fY)
        clear fX fY
        obtain ⟨wd, hwd⟩ : ∃ wd, w.drewN m = wd := ⟨_, rfl⟩
        have HWD := Lib.hid hwd
        rw [hwd] at FX FY ⊢
        clear hwd
        go_wp2_with fail
        go_region_with (go_at_call 70; refine (c_dotIn32 _ _ (n - F) (ca - F) (cb - F) _ _ _ (FX.out.kept ((Below.refl wd.heap.size wd).drew)) (FY.out.kept ((Below.refl wd.heap.size wd).drew))).mono ?_; rintro e wz ⟨p, q, hp, hpl, rfl, rfl⟩; have HP := Lib.hid hp; clear hp hpl)
        all_goals
          go_wp2_with fail
          go_roundw
          case rel => exact ⟨t + 1, _, _, F + B, by rw [Nat.add_mul, Nat.one_mul, HT.out], by omega, by go_num, rfl, blk_next HR.out (by rw [HT.out]; exact HP.out), fval_lt .add .f32 _ _ _, by rw [← HWD.out]; exact World.drewN_drewN _ _ _⟩
          case measure => simp [intOf]; omega
    · go_wp2_with fail
      go_ret
      have hex := blk_exit (M := n) hB1 (t := t) (by rw [HT.out]; exact hF) (by rw [HT.out]; omega)
      exact ⟨r, _, by rw [HR.out]; unfold bdot; rw [HLX.out, hex], HR2.out, rfl, rfl⟩
end Go.Proofs.Ytkfpaehalfjhhaa
