/-
  Parts of a list one after another (slices.Chunk), and lists made of what an iterator gives (slices.Collect). Conditions: the parts have at least one number.
-/
import Derived.RangeFuncBox
import Derived.RangeFuncNested
import Derived.RangeFuncLeaves
import Derived.RangeFuncCalls
import Derived.Shelf.Abstract
import Derived.WalkKit
import Derived.OwnWalkIn
import Derived.TacticsInMore
import Derived.LoopNIn
import Derived.LoopIn
import Derived.Maps.AppendAt
import Derived.Test.YtkfpaehalfjhhaaSS
import Derived.Test.YtkfpaehalfjhhaaFun
namespace Go.Proofs.Ytkfpaehalfjhhaa
open Go.RowKit Go.Shelf
set_option linter.unusedVariables false
attribute [local go_sem] Oper.semAt_some

/-- how many numbers the k-th part has, and how many parts there are -/
def chLen (n m k : Nat) : Nat := min m (n - k * m)
def chCnt (n m : Nat) : Nat := (n + m - 1) / m
theorem chCnt_lt {n m k : Nat} (hm : 1 ≤ m) : k < chCnt n m ↔ k * m < n := by
  unfold chCnt
  rw [Nat.lt_div_iff_mul_lt (by omega)]
  omega
def chV (b off n m k : Nat) : Value := .slice (some ⟨b, off + k * m, none⟩) (chLen n m k) (chLen n m k)
abbrev ChI (n m : Nat) := { k : Nat // k < chCnt n m }
set_option maxRecDepth 100000 in
set_option maxHeartbeats 2000000 in
theorem chunk1_in (n l Bs Bn n₀ b off len cap m : Nat) (hn : 1 ≤ n) (hm : 1 ≤ m) (hm2 : m ≤ 1048576) (hlen : len ≤ 1048576) (hcap : len ≤ cap) (hBs0 : Bs < n₀) (hBn0 : Bn < n₀) (J Jx : List (ChI len m) → World → Prop) (W : World) (hJ : AbidesFrom W.heap.size J)
    (hY : ∀ pre x W1, J pre W1 → pre.length < chCnt len m → YieldAt Fence.wide (n - 1) Try.prog l #[chV b off len m x.1] W1 fun e W' =>
      (e = .returned (.bool true) ∧ J (pre ++ [x]) W' ∧ Below n₀ W1 W') ∨ (e = .returned (.bool false) ∧ Jx (pre ++ [x]) W'))
    (hBs : W.cell? ⟨Bs, 0, none⟩ = some (.slice (some ⟨b, off, none⟩) len cap)) (hBn : W.cell? ⟨Bn, 0, none⟩ = some (.int .i64 m)) (h0 : J [] W) :
    CallsIn Fence.wide n Try.prog 126 #[.func (.yield l) #[] #[], .pointer (some ⟨Bs, 0, none⟩), .pointer (some ⟨Bn, 0, none⟩)] W fun e W' => (∃ v, e = .returned v) ∧
      ((∃ ys, ys.map Subtype.val = List.range (chCnt len m) ∧ J ys W') ∨ (∃ pre, True ∧ Jx pre W')) := by
  refine callsIn_of_wp Try.func126 rfl trivial ?_ rfl
  simp only [Try.ntmps126, List.size_toArray, List.length_cons, List.length_nil, Nat.reduceAdd, Nat.reduceSub, Array.replicate_succ, Array.replicate_zero, List.push_toArray, List.append_toArray, List.nil_append, List.cons_append]
  gi_wp2
  gi_loopw [4] (fun i wr => ∃ (k : Nat) (pre : List (ChI len m)), k ≤ chCnt len m ∧ pre.map Subtype.val = List.range k ∧ i = .int .i64 ((k * m : Nat) : Int) ∧ J pre wr ∧ Below n₀ W wr)
    (fun i _ => len - (intOf i).toNat)
  case atStart => exact ⟨0, [], Nat.zero_le _, rfl, by simp, h0, Below.refl _ _⟩
  case round =>
    obtain ⟨k, pre, hk, hpre, rfl, hJs, hnx⟩ := hrel
    have hpl : pre.length = k := by have := congrArg List.length hpre; simpa using this
    have HPRE := Lib.hid hpre
    have hbs := (hnx.cell (p := ⟨Bs, 0, none⟩) hBs0).trans hBs
    have hbn := (hnx.cell (p := ⟨Bn, 0, none⟩) hBn0).trans hBn
    have hiff := chCnt_lt (n := len) (k := k) hm
    by_cases hlt : k < chCnt len m
    · have hlt2 := hiff.1 hlt
      have hJd : J pre wr.drew := hJ _ _ _ none hJs ⟨rfl, rfl, rfl, Nat.le_refl _, fun _ _ _ => rfl⟩ (fun _ h => by cases h)
      obtain ⟨fn, tmps, assign, body, hy, hR⟩ := hY pre ⟨k, hlt⟩ wr.drew hJd (by rw [hpl]; exact hlt)
      have HR := Lib.hid hR
      dsimp only [chV, chLen] at hy
      have hsm : (k + 1) * m = k * m + m := Nat.succ_mul k m
      have HSM := Lib.hid hsm
      obtain ⟨p, hp⟩ : ∃ p, k * m = p := ⟨_, rfl⟩
      have HPP := Lib.hid hp
      rw [hp] at hlt2 hy ⊢
      obtain ⟨r, hr⟩ : ∃ r, len - p = r := ⟨_, rfl⟩
      rw [hr] at hy
      have HRR := Lib.hid hr
      have f1 : (0 : Int) ≤ (p : Int) := by omega
      have f2 : (p : Int) ≤ (len : Int) := by omega
      have f3 : (p : Int) ≤ (cap : Int) := by omega
      have f4 : ¬ cap = p := by omega
      have f5 : ((len : Int) - (p : Int)) = (r : Int) := by omega
      have f5' : len - p = r := hr
      have f6 : ((p : Int) + (m : Int)).toNat - p = m := by omega
      have f7 : ((p : Int) + (r : Int)).toNat - p = r := by omega
      have HNX := Lib.hid hnx
      have NX : Below n₀ W wr.drew := hnx.drew
      have hbs' := (NX.cell (p := ⟨Bs, 0, none⟩) hBs0).trans hBs
      have HJ := Lib.hid hJ
      clear hpre hiff hk hp hsm hR hr hJs hJd hY hnx
      have fin : ∀ W3, J (pre ++ [⟨k, hlt⟩]) W3 ∧ Below n₀ wr.drew W3 → W3.cell? ⟨Bn, 0, none⟩ = some (.int .i64 m) := fun W3 h => ((NX.trans h.2).cell (p := ⟨Bn, 0, none⟩) hBn0).trans hBn
      by_cases hmr : m ≤ r
      · have hq : min m r = m := Nat.min_eq_left hmr
        rw [hq] at hy
        have g1 : (m : Int) ≤ (r : Int) := by omega
        have g2 : (p : Int) + (m : Int) ≤ (cap : Int) := by omega
        have g3 : (p : Int) ≤ (p : Int) + (m : Int) := by omega
        have g4 : ((p : Int) + (m : Int)) ≤ 9223372036854775807 := by omega
        gi_wp2
        gi_region
        all_goals gi_wp2
        all_goals
          refine HR.out.mono ?_
          rintro e W3 (⟨rfl, hJ3, hk3⟩ | ⟨rfl, hJx3⟩)
          · have hbn3 := fin W3 ⟨hJ3, hk3⟩
            gi_wp2
            go_roundw
            case rel =>
              refine ⟨k + 1, pre ++ [⟨k, hlt⟩], hlt, ?_, ?_, hJ3, NX.trans hk3⟩
              · rw [List.map_append, List.range_succ]
                exact congrArg (· ++ [k]) HPRE.out
              · rw [HSM.out, HPP.out]; go_num
            case measure => simp [intOf]; omega
          · gi_wp2
            refine bodyPost_ret (results_none rfl _ _ _) rfl ?_
            exact ⟨⟨_, rfl⟩, .inr ⟨_, trivial, hJx3⟩⟩
      · have hq : min m r = r := Nat.min_eq_right (by omega)
        rw [hq] at hy
        have g1 : (r : Int) < (m : Int) := by omega
        have g2 : (p : Int) + (r : Int) ≤ (cap : Int) := by omega
        have g3 : (p : Int) ≤ (p : Int) + (r : Int) := by omega
        have g4 : ((p : Int) + (r : Int)) ≤ 9223372036854775807 := by omega
        gi_wp2
        gi_region
        all_goals gi_wp2
        all_goals
          refine HR.out.mono ?_
          rintro e W3 (⟨rfl, hJ3, hk3⟩ | ⟨rfl, hJx3⟩)
          · have hbn3 := fin W3 ⟨hJ3, hk3⟩
            gi_wp2
            go_roundw
            case rel =>
              refine ⟨k + 1, pre ++ [⟨k, hlt⟩], hlt, ?_, ?_, hJ3, NX.trans hk3⟩
              · rw [List.map_append, List.range_succ]
                exact congrArg (· ++ [k]) HPRE.out
              · rw [HSM.out, HPP.out]; go_num
            case measure => simp [intOf]; omega
          · gi_wp2
            refine bodyPost_ret (results_none rfl _ _ _) rfl ?_
            exact ⟨⟨_, rfl⟩, .inr ⟨_, trivial, hJx3⟩⟩
    · have hkk : k = chCnt len m := by omega
      have hend : ¬ k * m < len := by rw [← hiff]; exact hlt
      obtain ⟨p, hp⟩ : ∃ p, k * m = p := ⟨_, rfl⟩
      rw [hp] at hend ⊢
      have hend' : ¬ (p : Int) < (len : Int) := by omega
      clear hiff hp
      gi_wp2
      go_end0
      exact ⟨⟨_, rfl⟩, .inl ⟨pre, hpre.trans (by rw [hkk]), hJs⟩⟩
theorem c_chunk (a : Option Addr) (len cap m : Nat) (hm : 1 ≤ m) (w : World) : Calls Try.prog 117 #[.slice a len cap, .int .i64 m] w fun e w' =>
    e = .returned (.func (.func 126) #[] #[.pointer (some ⟨w.heap.size, 0, none⟩), .pointer (some ⟨w.heap.size + 1, 0, none⟩)]) ∧ w' = (w.alloc (.cells #[.slice a len cap] 22)).alloc (.cells #[.int .i64 m] 3) := by
  have hm1 : (1 : Int) ≤ (m : Int) := by omega
  clear hm
  go_enter Try.func117, Try.ntmps117
  go_wp2
  go_ret
  exact ⟨rfl, rfl⟩
def chW (a : Option Addr) (n m k : Nat) : Value := .slice (a.map fun p => ⟨p.block, p.off + k * m, none⟩) (chLen n m k) (chLen n m k)
set_option maxRecDepth 100000 in
set_option maxHeartbeats 1000000 in
theorem chunk_nil (n l Bs Bn cap m : Nat) (hn : 1 ≤ n) (J : List (ChI 0 m) → World → Prop) (W : World) (hBs : W.cell? ⟨Bs, 0, none⟩ = some (.slice none 0 cap)) (h0 : J [] W) :
    CallsIn Fence.wide n Try.prog 126 #[.func (.yield l) #[] #[], .pointer (some ⟨Bs, 0, none⟩), .pointer (some ⟨Bn, 0, none⟩)] W fun e W' => (∃ v, e = .returned v) ∧ J [] W' := by
  refine callsIn_of_wp Try.func126 rfl trivial ?_ rfl
  simp only [Try.ntmps126, List.size_toArray, List.length_cons, List.length_nil, Nat.reduceAdd, Nat.reduceSub, Array.replicate_succ, Array.replicate_zero, List.push_toArray, List.append_toArray, List.nil_append, List.cons_append]
  gi_wp2
  gi_loopw [4] (fun i wr => i = .int .i64 0 ∧ J [] wr ∧ wr.cell? ⟨Bs, 0, none⟩ = some (.slice none 0 cap)) (fun _ _ => 0)
  case atStart => exact ⟨rfl, h0, hBs⟩
  case round =>
    obtain ⟨rfl, hJs, hbs⟩ := hrel
    gi_wp2
    go_end0
    exact ⟨⟨_, rfl⟩, hJs⟩
theorem chunk_stops (n Bs Bn : Nat) (hn : 1 ≤ n) (a : Option Addr) (len cap m : Nat) (hm : 1 ≤ m) (hm2 : m ≤ 1048576) (hlen : len ≤ 1048576) (hcap : len ≤ cap) (ha : len = 0 ∧ a = none ∨ ∃ b off, a = some ⟨b, off, none⟩) (w : World) (hBs0 : Bs < w.heap.size) (hBn0 : Bn < w.heap.size)
    (hBs : w.cell? ⟨Bs, 0, none⟩ = some (.slice a len cap)) (hBn : w.cell? ⟨Bn, 0, none⟩ = some (.int .i64 m)) :
    SeqStopsK Fence.wide n Try.prog 126 #[.pointer (some ⟨Bs, 0, none⟩), .pointer (some ⟨Bn, 0, none⟩)] (fun x : ChI len m => #[chW a len m x.1]) (Below w.heap.size) (fun ys => ys.map Subtype.val = List.range (chCnt len m)) (fun _ => True) (chCnt len m) w := fun l J Jx W hW hJ _ hY h0 => by
  have hbs := (hW.cell (p := ⟨Bs, 0, none⟩) hBs0).trans hBs
  have hbn := (hW.cell (p := ⟨Bn, 0, none⟩) hBn0).trans hBn
  rcases ha with ⟨rfl, rfl⟩ | ⟨b, off, rfl⟩
  · refine (chunk_nil n l Bs Bn cap m hn J W hbs h0).mono fun e W' ⟨he, hj⟩ => ⟨he, .inl ⟨[], ?_, hj⟩⟩
    have : chCnt 0 m = 0 := by unfold chCnt; exact Nat.div_eq_of_lt (by omega)
    simp [this]
  · exact chunk1_in n l Bs Bn w.heap.size b off len cap m hn hm hm2 hlen hcap hBs0 hBn0 J Jx W hJ hY hbs hbn h0
end Go.Proofs.Ytkfpaehalfjhhaa
