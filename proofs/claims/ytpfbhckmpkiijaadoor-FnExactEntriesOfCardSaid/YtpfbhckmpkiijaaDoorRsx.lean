/-
  BytesNumbers: what the model answers. Conditions: at most 2 ^ 20 bytes.
-/
import Derived.Test.YtpfbhckmpkiijaaDoorRdy
import Derived.Test.YtpfbhckmpkiijaaDoorNby
namespace Go.Proofs.YtpfbhckmpkiijaaDoor
open Go.RowKit Go.Deep Go.WideShapes Go.ChangeShapes
set_option linter.unusedVariables false
set_option linter.unusedSimpArgs false
attribute [local go_sem] World.drewN_zero

theorem ext_part (l : List UInt8) (i : Nat) : (⟨l.toArray⟩ : ByteArray).extract (4 * i) (4 * i + 4) = ⟨((l.drop (4 * i)).take 4).toArray⟩ := by
  apply ByteArray.ext
  simp [ByteArray.data_extract, List.drop_take]
set_option maxHeartbeats 1000000 in
theorem c_l08Number (m : List UInt8) (h6 : m.length ≤ 6) (w : World) : Calls Tryd.prog 40 #[.string ⟨m.toArray⟩] w fun e w' => e = .returned (.int .i64 (leN m : Int)) ∧ w = w' := by
  have hsz := size_mk m
  have hl6 : (m.length : Int) ≤ 6 := by omega
  go_enter Tryd.func40, Tryd.ntmps40
  go_wp2
  go_loop [3, 4] (fun n k => ∃ j : Nat, j ≤ m.length ∧ k = .int .i64 ((j : Int) - 1) ∧ n = .int .i64 (leN (m.drop j) : Int)) (fun _ k => (intOf k + 1).toNat)
  case atStart => exact ⟨m.length, Nat.le_refl _, rfl, by rw [List.drop_length]; rfl⟩
  case round =>
    obtain ⟨j, hj, rfl, rfl⟩ := hrel
    cases j with
    | zero =>
      have e : ((0 : Nat) : Int) - 1 = -1 := rfl
      rw [e]
      go_wp2
      go_ret
      exact ⟨rfl, rfl⟩
    | succ j =>
      have hjl : j < m.length := by omega
      have e : ((j + 1 : Nat) : Int) - 1 = (j : Int) := by omega
      rw [e]
      have hd := leN_drop hjl
      have hlt := leN_lt (m.drop (j + 1))
      have hp : 256 ^ (m.drop (j + 1)).length ≤ 256 ^ 5 := Nat.pow_le_pow_right (by decide) (by rw [List.length_drop]; omega)
      obtain ⟨F, hF⟩ : ∃ F, leN (m.drop (j + 1)) = F := ⟨_, rfl⟩
      rw [hF] at hd hlt ⊢
      have hF5 : F ≤ 1099511627775 := by omega
      have HD := Lib.hid hd
      have hj0 : (0 : Int) ≤ (j : Int) := by omega
      have hj1 : (j : Int) < (m.length : Int) := by omega
      clear hd hlt hp hF e
      go_wp2
      refine ⟨⟨j, by omega, rfl, ?_⟩, by simp [intOf] <;> omega⟩
      have e1 : ((⟨m.toArray⟩ : ByteArray)[j]'(by rw [hsz]; exact hjl)).toNat = m[j].toNat := rfl
      obtain ⟨c, hc⟩ : ∃ c, m[j] = c := ⟨_, rfl⟩
      have hc8 := c.toNat_lt
      have hor := or_byte (a := F) (b := c.toNat) (by omega) (by omega)
      have hw : wrap64 ((c.toNat : Nat) : Int) = (c.toNat : Int) := by unfold wrap64; omega
      rw [e1, HD.out, hc, hw]
      exact congrArg (Value.int .i64) hor
def LlRel (l : List UInt8) (n : Nat) (w : World) (sv iv : Value) (wr : World) : Prop :=
  ∃ (k : Nat) (b : Option Addr) (cp : Nat), k ≤ n ∧ iv = .int .i64 ((4 * k : Nat) : Int) ∧ sv = .slice b (numsB l k).length cp ∧ OwnF wr w.heap.size b cp (numsB l k) ∧ Below w.heap.size w wr
set_option maxRecDepth 20000 in
set_option maxHeartbeats 4000000 in
theorem c_l08List (l : List UInt8) (hl : l.length ≤ 16384) (w : World) : Calls Tryd.prog 21 #[.string ⟨l.toArray⟩] w fun e w' => ∃ b c, e = .returned (.slice b (numsB l (l.length / 4)).length c) ∧ OwnF w' w.heap.size b c (numsB l (l.length / 4)) ∧ Below w.heap.size w w' := by
  obtain ⟨i0, hi, hz0, hz1, hz2⟩ := info_parts info_f32
  have HI := Lib.hid hi
  have HZ0 := Lib.hid hz0
  have HZ1 := Lib.hid hz1
  have HZ2 := Lib.hid hz2
  have hsz := size_mk l
  have hl1 : (l.length : Int) ≤ 16384 := by omega
  obtain ⟨n, hn⟩ : ∃ n, l.length / 4 = n := ⟨_, rfl⟩
  have HN := Lib.hid hn
  rw [hn]
  clear hi hz0 hz1 hz2 hn
  go_enter Tryd.func21, Tryd.ntmps21
  go_wp2_with fail
  go_loopw [3, 4] (fun sv iv wr => LlRel l n w sv iv wr) (fun _ iv _ => 4 * n - (intOf iv).toNat)
  case atStart => exact ⟨0, some ⟨w.heap.size, 0, none⟩, 0, Nat.zero_le _, rfl, rfl, ⟨World.ownsRow_made (size := 1) w #[] 0 (Nat.le_refl _) (by unfold maxLen; omega) rfl, fun y hy => by cases hy⟩, (Below.refl _ _).alloc (Nat.le_refl _) _⟩
  case round =>
    obtain ⟨k, b, cp, hk, rfl, rfl, ho, hb⟩ := hrel
    have HO := Lib.hid ho
    have HB := Lib.hid hb
    have hnl := numsB_length l k
    have hnn := HN.out
    by_cases hlt : k < n
    · obtain ⟨i, hi4⟩ : ∃ i, 4 * k = i := ⟨_, rfl⟩
      have A1 := Lib.hid (show (numsB l k).length + 1 ≤ maxLen by unfold maxLen; omega)
      have A2 := Lib.hid (show ((numsB l k).length + 1) * 4 ≤ 140737488355328 by omega)
      have A3 := Lib.hid (show w.heap.size ≤ (wr.alloc (.cells #[.float .f32 (num4 l k)] 34)).heap.size by have := hb.size; rw [World.size_alloc]; omega)
      have g1 : (0 : Int) ≤ (i : Int) := by omega
      have g2 : (i : Int) + 4 ≤ (l.length : Int) := by omega
      have g3 : ((i : Int) + 4).toNat = i + 4 := by omega
      have g4 : (i : Int) ≤ (i : Int) + 4 := by omega
      have hext := ext_part l k
      rw [hi4] at hext
      have HNM := Lib.hid (c_l08Number ((l.drop i).take 4) (by rw [List.length_take]; omega) wr)
      have hv : leN ((l.drop i).take 4) = num4 l k := by rw [← hi4]; rfl
      rw [hv] at HNM
      have HVL := Lib.hid (c_l01From (num4 l k) (num4_lt l k) wr)
      have HI4 := Lib.hid hi4
      rw [hi4]
      clear ho hb hnl hv hi4 hnn
      go_wp2_with (first
        | (go_at_call 40; refine HNM.out.mono ?_; rintro e w5 ⟨rfl, rfl⟩)
        | (go_at_call 39; refine HVL.out.mono ?_; rintro e w5 ⟨rfl, rfl⟩)
        | (at_builtin; refine wpList_append_any _ rfl (.tmp 13) (.tmp 21) 22 rfl w.heap.size 34 i0 (.float .f32 0) 1 4 Tryd.underlying22 HI.out HZ0.out HZ1.out HZ2.out rfl Nat.one_pos (.slice b (numsB l k).length cp) (numsB l k).length ((numsB l k).map (Value.float .f32)) rfl (HO.out.kept ((Below.refl _ _).alloc (Nat.le_refl _) _)).1 _ (some ⟨wr.heap.size, 0, none⟩) 1 1 [.float .f32 (num4 l k)] rfl rdy_reads (rdy_one _) A1.out A2.out A3.out ?_; intro v' w' hown hgr _))
      go_roundw
      case rel =>
        obtain ⟨a', c', rfl⟩ := ownsRow_slice hown
        rw [ownBlock_slice] at hgr
        have ba := HB.out.alloc (by have := HB.out.size; omega) (.cells #[.float .f32 (num4 l k)] 34)
        refine ⟨k + 1, a', c', hlt, ?_, by rw [numsB_succ]; simp, ⟨by rw [numsB_succ]; simpa using hown, numsB_lt l (k + 1)⟩, ba.grown hgr A3.out (fun k' hk' => (HO.out.lt k' hk').1)⟩
        have := HI4.out
        exact congrArg (Value.int .i64) (by push_cast; omega)
      case measure => have := HI4.out; simp [intOf]; omega
    · obtain rfl : k = n := by omega
      have g2 : ¬ ((4 * k : Nat) : Int) + 4 ≤ (l.length : Int) := by omega
      have g3 : (0 : Int) ≤ ((4 * k : Nat) : Int) := by omega
      have g4 : ((4 * k : Nat) : Int) ≤ 16384 := by omega
      obtain ⟨i, hi4⟩ : ∃ i, 4 * k = i := ⟨_, rfl⟩
      rw [hi4] at g2 g3 g4 ⊢
      clear hnl hnn hi4
      go_wp2_with fail
      go_ret
      exact ⟨b, cp, rfl, HO.out, HB.out⟩
set_option maxHeartbeats 1000000 in
theorem t_sBytesNumbers (x : ByteArray) (hx : x.size ≤ 1048576) (w : World) : Calls Tryd.prog 6 #[.string x] w (RetL (vBytesNumbers x.data.toList).1 (vBytesNumbers x.data.toList).2 w) := by
  obtain ⟨l, rfl⟩ : ∃ l : List UInt8, x = ⟨l.toArray⟩ := ⟨x.data.toList, by cases x; simp⟩
  have hsz := size_mk l
  rw [hsz] at hx
  simp only [List.toList_toArray]
  have hl1 : (l.length : Int) ≤ 1048576 := by omega
  by_cases h4 : l.length ≤ 16384
  · have h4' : (l.length : Int) ≤ 16384 := by omega
    have HL := Lib.hid (c_l08List l h4 w)
    have H4 := Lib.hid h4
    obtain ⟨n, hn⟩ : ∃ n, l.length / 4 = n := ⟨_, rfl⟩
    have HN := Lib.hid hn
    rw [hn] at HL
    have HNL := Lib.hid (show (numsB l n).length ≤ 4096 by rw [numsB_length]; omega)
    clear hx h4 hn
    go_enter Tryd.func6, Tryd.ntmps6
    go_wp2_with fail
    refine HL.out.mono ?_
    rintro e w2 ⟨b, c, rfl, ho, hb⟩
    have HO := Lib.hid ho
    have HB := Lib.hid hb
    have HBY := Lib.hid (c_l08Bytes b c (numsB l n) w2 ho.isFloats HNL.out)
    clear ho hb HL
    cases hb : (nb (numsB l n) == l) with
    | true =>
      have hv : vBytesNumbers l = (true, (numsB l n).map (canon .f32)) := by
        unfold vBytesNumbers
        rw [if_pos (by simp only [okBN, HN.out, Bool.and_eq_true, decide_eq_true_eq]; exact ⟨H4.out, by simpa using hb⟩), HN.out]
      have HV := Lib.hid hv
      clear hv
      go_wp2_with (go_at_call 22; refine HBY.out.mono ?_; rintro e w3 ⟨rfl, b3⟩; have B3 := Lib.hid b3; clear b3)
      go_ret2
      rw [HV.out]
      exact ⟨b, c, numsB l n, rfl, HO.out.kept B3.out, rfl, Below.next HB.out B3.out⟩
    | false =>
      have hv : vBytesNumbers l = (false, []) := by
        unfold vBytesNumbers
        rw [if_neg (by simp only [okBN, HN.out, Bool.and_eq_true, decide_eq_true_eq]; rintro ⟨_, h2⟩; rw [h2] at hb; simp at hb)]
      have HV := Lib.hid hv
      clear hv
      go_wp2_with (go_at_call 22; refine HBY.out.mono ?_; rintro e w3 ⟨rfl, b3⟩; have B3 := Lib.hid b3; clear b3)
      go_ret2
      rw [HV.out]
      exact ⟨none, 0, [], rfl, ⟨World.ownsRow_nil _ _ _ _, fun y hy => by cases hy⟩, rfl, Below.next HB.out B3.out⟩
  · have hv : vBytesNumbers l = (false, []) := by
      unfold vBytesNumbers
      rw [if_neg (by simp only [okBN, Bool.and_eq_true, decide_eq_true_eq]; rintro ⟨h1, _⟩; exact h4 h1)]
    rw [hv]
    have h4' : (16384 : Int) < (l.length : Int) := by omega
    clear hx h4 hv
    go_enter Tryd.func6, Tryd.ntmps6
    go_wp2_with fail
    go_ret2
    exact ⟨none, 0, [], rfl, ⟨World.ownsRow_nil _ _ _ _, fun y hy => by cases hy⟩, rfl, Below.refl _ _⟩
end Go.Proofs.YtpfbhckmpkiijaaDoor
