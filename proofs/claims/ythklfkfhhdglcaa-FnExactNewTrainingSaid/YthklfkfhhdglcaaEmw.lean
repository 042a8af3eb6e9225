/-
  Slots with zeros, of up to 1024 numbers, as the model makes them. Conditions: none.
-/
import Derived.Test.YthklfkfhhdglcaaESl
namespace Go.Proofs.Ythklfkfhhdglcaa
open Go.RowKit Go.Deep Go.WideShapes Go.ChangeShapes Go.Maps
set_option linter.unusedVariables false

set_option maxRecDepth 20000 in
set_option maxHeartbeats 2000000 in
theorem c_l05EmptyW (g : Nat) (k : Int) (n : Nat) (w : World) (hn : n ≤ 1024) (hg : g < w.heap.size) (h : w.cell? ⟨g, 0, none⟩ = some (.int .i64 k)) :
    Calls Try.prog 95 #[.pointer (some ⟨g, 0, none⟩), .int .i64 n] w fun e w' => ∃ gs cp ys, e = .returned (.slice gs (List.length ys) cp) ∧ ys.length = slotsOf k ∧ allZero n ys ∧ OwnL w' w.heap.size [.sl 32 1 ys.length gs cp (ssC ys)] ∧ (blL [.sl 32 1 ys.length gs cp (ssC ys)]).Nodup ∧ Below w.heap.size w w' := by
  have HC := Lib.hid (fun wr (hb : Below w.heap.size w wr) => c_l05Slots g k wr ((hb.cell (p := ⟨g, 0, none⟩) hg).trans h))
  have hs := slots_le k
  obtain ⟨S, hS⟩ : ∃ S, slotsOf k = S := ⟨_, rfl⟩
  rw [hS] at HC hs ⊢
  obtain ⟨i0, hi, hz0, hz1, hz2⟩ := info_parts info_f32
  have HI := Lib.hid hi
  have HZ0 := Lib.hid hz0
  have HZ1 := Lib.hid hz1
  have HZ2 := Lib.hid hz2
  obtain ⟨j0, ji, jz0, jz1, jz2⟩ := info_parts info_sl
  have JI := Lib.hid ji
  have JZ0 := Lib.hid jz0
  have JZ1 := Lib.hid jz1
  have JZ2 := Lib.hid jz2
  clear hi hz0 hz1 hz2 ji jz0 jz1 jz2 h hS
  go_enter Try.func95, Try.ntmps95
  go_wp2_with fail
  go_loopw [5, 6] (fun s i wr => SlRel n S w s i wr) (fun _ i _ => S - (intOf i).toNat)
  case atStart => exact ⟨0, _, 0, [], Nat.zero_le _, rfl, rfl, rfl, (fun _ h => by cases h), by simpa [OwnL, Cl.Own, ssC, vs] using World.ownsRow_made w #[] 0 (Nat.le_refl _) (by unfold maxLen; omega) rfl, by simp [blL, Cl.bl, ssC, blk], (Below.refl _ _).alloc (Nat.le_refl _) _⟩
  case round =>
    obtain ⟨k, gs, cp, ys, hk, rfl, rfl, hy, hz, ho, hnd, hl⟩ := hrel
    have HY := Lib.hid hy
    have HZ := Lib.hid hz
    have HO := Lib.hid ho
    have HND := Lib.hid hnd
    have HL := Lib.hid hl
    have hk0 : (0 : Int) ≤ (k : Int) := by omega
    clear hy hz ho hnd hl
    by_cases hlt : k < S
    · have hlt' : (k : Int) < (S : Int) := by omega
      have A1 := Lib.hid (show ys.length + 1 ≤ maxLen by have := HY.out; unfold maxLen; omega)
      have A2 := Lib.hid (show (ys.length + 1) * 24 ≤ 140737488355328 by have := HY.out; omega)
      have HROW := Lib.hid (show wr.ownsRow w.heap.size 32 1 (.slice gs ys.length cp) ys.length (ys.map FlA.v) by have h := HO.out.1.1; rw [vs_ssC] at h; exact h)
      go_wp2_with (first | (go_at_call 143; refine (HC.out _ HL.out).mono ?_; rintro e w' ⟨rfl, rfl⟩) | (at_make; refine wpList_make_full _ rfl _ _ 32 rfl wr.heap.size 37 i0 (.float .f32 0) 1 Try.underlying32 HI.out HZ0.out HZ1.out _ _ _ _ n rfl rfl rfl rfl ?c1 ?c2 ?c3 ?_))
      case c1 => rw [HZ2.out]; omega
      case c2 => unfold maxLen; omega
      case c3 => exact Nat.le_refl _
      intro w1 hown hgrow
      have hb1 : Below wr.heap.size wr w1 := (Below.refl _ _).grown hgrow (Nat.le_refl _) (fun k h => by cases h)
      rw [toList_madeCells_one] at hown
      have HM := Lib.hid (made_zeros hown)
      have HB1 := Lib.hid hb1
      have HRA := Lib.hid (show (w1.alloc (.cells #[.slice (some ⟨wr.heap.size, 0, none⟩) n n] 32)).ownsRow w.heap.size 32 1 (.slice gs ys.length cp) ys.length (ys.map FlA.v) from ownsRow_in HROW.out (GrownIn.of_below (Below.next HB1.out ((Below.refl _ _).alloc (Nat.le_refl _) _)) []) (fun _ _ h => by cases h))
      have A3 := Lib.hid (show w.heap.size ≤ (w1.alloc (.cells #[.slice (some ⟨wr.heap.size, 0, none⟩) n n] 32)).heap.size by rw [World.size_alloc]; have := HL.out.size; have := HB1.out.size; omega)
      clear hown hb1 hgrow
      go_wp2_with (at_builtin; go_loud (refine wpList_append_any _ rfl (.tmp 14) (.tmp 17) 69 rfl w.heap.size 32 j0 (.slice none 0 0) 1 24 Try.underlying69 JI.out JZ0.out JZ1.out JZ2.out rfl Nat.one_pos (.slice gs ys.length cp) ys.length (ys.map FlA.v) rfl HRA.out (w1.heap.size + 1) (some ⟨w1.heap.size, 0, none⟩) 1 1 [.slice (some ⟨wr.heap.size, 0, none⟩) n n] rfl sl_reads (one_sl _ _ _) A1.out A2.out A3.out ?_; intro v' w' hown hgr hat; obtain ⟨a', c', rfl⟩ := ownsRow_slice hown; have HMD := Lib.hid (sl_next hlt HY.out HZ.out HO.out HND.out HL.out HB1.out HM.out hown hgr hat); clear hown hgr hat))
      go_roundw
      case rel => exact HMD.out
      case measure => simp [intOf]; omega
    · obtain rfl : k = S := by omega
      go_wp2_with (go_at_call 143; refine (HC.out _ HL.out).mono ?_; rintro e w' ⟨rfl, rfl⟩)
      go_ret
      exact ⟨gs, cp, ys, rfl, HY.out, HZ.out, HO.out, HND.out, HL.out⟩
end Go.Proofs.Ythklfkfhhdglcaa
