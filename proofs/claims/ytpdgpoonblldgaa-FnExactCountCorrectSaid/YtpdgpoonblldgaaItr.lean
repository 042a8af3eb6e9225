/-
  Parts of a list one after another (slices.Chunk), and lists made of what an iterator gives (slices.Collect). Conditions: the parts have at least one number.
-/
import Derived.RangeFuncBox
import Derived.RangeFuncNested
import Derived.RangeFuncLeaves
import Derived.RangeFuncCalls
import Derived.Shelf.Abstract
import Derived.WalkKit
import Derived.OwnWalkIn
import Derived.TacticsInMore
import Derived.LoopNIn
import Derived.LoopIn
import Derived.Maps.AppendAt
import Derived.Test.YtpdgpoonblldgaaSS
import Derived.Test.YtpdgpoonblldgaaFun
namespace Go.Proofs.Ytpdgpoonblldgaa
open Go.RowKit Go.Shelf
set_option linter.unusedVariables false
attribute [local go_sem] Oper.semAt_some

/-- how many numbers the k-th part has, and how many parts there are -/
def chLen (n m k : Nat) : Nat := min m (n - k * m)
def chCnt (n m : Nat) : Nat := (n + m - 1) / m
theorem chCnt_lt {n m k : Nat} (hm : 1 ≤ m) : k < chCnt n m ↔ k * m < n := by
  unfold chCnt
  rw [Nat.lt_div_iff_mul_lt (by omega)]
  omega
def chV (b off n m k : Nat) : Value := .slice (some ⟨b, off + k * m, none⟩) (chLen n m k) (chLen n m k)
abbrev ChI (n m : Nat) := { k : Nat // k < chCnt n m }
set_option maxRecDepth 100000 in
set_option maxHeartbeats 2000000 in
theorem chunk1_in (n l Bs Bn n₀ b off len cap m : Nat) (hn : 1 ≤ n) (hm : 1 ≤ m) (hm2 : m ≤ 1048576) (hlen : len ≤ 1048576) (hcap : len ≤ cap) (hBs0 : Bs < n₀) (hBn0 : Bn < n₀) (J Jx : List (ChI len m) → World → Prop) (W : World) (hJ : AbidesFrom W.heap.size J)
    (hY : ∀ pre x W1, J pre W1 → pre.length < chCnt len m → YieldAt Fence.wide (n - 1) Try.prog l #[chV b off len m x.1] W1 fun e W' =>
      (e = .returned (.bool true) ∧ J (pre ++ [x]) W' ∧ Below n₀ W1 W') ∨ (e = .returned (.bool false) ∧ Jx (pre ++ [x]) W'))
    (hBs : W.cell? ⟨Bs, 0, none⟩ = some (.slice (some ⟨b, off, none⟩) len cap)) (hBn : W.cell? ⟨Bn, 0, none⟩ = some (.int .i64 m)) (h0 : J [] W) :
    CallsIn Fence.wide n Try.prog 177 #[.func (.yield l) #[] #[], .pointer (some ⟨Bs, 0, none⟩), .pointer (some ⟨Bn, 0, none⟩)] W fun e W' => (∃ v, e = .returned v) ∧
      ((∃ ys, ys.map Subtype.val = List.range (chCnt len m) ∧ J ys W') ∨ (∃ pre, True ∧ Jx pre W')) := by
  refine callsIn_of_wp Try.func177 rfl trivial ?_ rfl
  simp only [Try.ntmps177, List.size_toArray, List.length_cons, List.length_nil, Nat.reduceAdd, Nat.reduceSub, Array.replicate_succ, Array.replicate_zero, List.push_toArray, List.append_toArray, List.nil_append, List.cons_append]
  gi_wp2
  gi_loopw [4] (fun i wr => ∃ (k : Nat) (pre : List (ChI len m)), k ≤ chCnt len m ∧ pre.map Subtype.val = List.range k ∧ i = .int .i64 ((k * m : Nat) : Int) ∧ J pre wr ∧ Below n₀ W wr)
    (fun i _ => len - (intOf i).toNat)
  case atStart => exact ⟨0, [], Nat.zero_le _, rfl, by simp, h0, Below.refl _ _⟩
  case round =>
    obtain ⟨k, pre, hk, hpre, rfl, hJs, hnx⟩ := hrel
    have hpl : pre.length = k := by have := congrArg List.length hpre; simpa using this
    have HPRE := Lib.hid hpre
    have hbs := (hnx.cell (p := ⟨Bs, 0, none⟩) hBs0).trans hBs
    have hbn := (hnx.cell (p := ⟨Bn, 0, none⟩) hBn0).trans hBn
    have hiff := chCnt_lt (n := len) (k := k) hm
    by_cases hlt : k < chCnt len m
    · have hlt2 := hiff.1 hlt
      have hJd : J pre wr.drew := hJ _ _ _ none hJs ⟨rfl, rfl, rfl, Nat.le_refl _, fun _ _ _ => rfl⟩ (fun _ h => by cases h)
      obtain ⟨fn, tmps, assign, body, hy, hR⟩ := hY pre ⟨k, hlt⟩ wr.drew hJd (by rw [hpl]; exact hlt)
      have HR := Lib.hid hR
      dsimp only [chV, chLen] at hy
      have hsm : (k + 1) * m = k * m + m := Nat.succ_mul k m
      have HSM := Lib.hid hsm
      obtain ⟨p, hp⟩ : ∃ p, k * m = p := ⟨_, rfl⟩
      have HPP := Lib.hid hp
      rw [hp] at hlt2 hy ⊢
      obtain ⟨r, hr⟩ : ∃ r, len - p = r := ⟨_, rfl⟩
      rw [hr] at hy
      have HRR := Lib.hid hr
      have f1 : (0 : Int) ≤ (p : Int) := by omega
      have f2 : (p : Int) ≤ (len : Int) := by omega
      have f3 : (p : Int) ≤ (cap : Int) := by omega
      have f4 : ¬ cap = p := by omega
      have f5 : ((len : Int) - (p : Int)) = (r : Int) := by omega
      have f5' : len - p = r := hr
      have f6 : ((p : Int) + (m : Int)).toNat - p = m := by omega
      have f7 : ((p : Int) + (r : Int)).toNat - p = r := by omega
      have HNX := Lib.hid hnx
      have NX : Below n₀ W wr.drew := hnx.drew
      have hbs' := (NX.cell (p := ⟨Bs, 0, none⟩) hBs0).trans hBs
      have HJ := Lib.hid hJ
      clear hpre hiff hk hp hsm hR hr hJs hJd hY hnx
      have fin : ∀ W3, J (pre ++ [⟨k, hlt⟩]) W3 ∧ Below n₀ wr.drew W3 → W3.cell? ⟨Bn, 0, none⟩ = some (.int .i64 m) := fun W3 h => ((NX.trans h.2).cell (p := ⟨Bn, 0, none⟩) hBn0).trans hBn
      by_cases hmr : m ≤ r
      · have hq : min m r = m := Nat.min_eq_left hmr
        rw [hq] at hy
        have g1 : (m : Int) ≤ (r : Int) := by omega
        have g2 : (p : Int) + (m : Int) ≤ (cap : Int) := by omega
        have g3 : (p : Int) ≤ (p : Int) + (m : Int) := by omega
        have g4 : ((p : Int) + (m : Int)) ≤ 9223372036854775807 := by omega
        gi_wp2
        gi_region
        all_goals gi_wp2
        all_goals
          refine HR.out.mono ?_
          rintro e W3 (⟨rfl, hJ3, hk3⟩ | ⟨rfl, hJx3⟩)
          · have hbn3 := fin W3 ⟨hJ3, hk3⟩
            gi_wp2
            go_roundw
            case rel =>
              refine ⟨k + 1, pre ++ [⟨k, hlt⟩], hlt, ?_, ?_, hJ3, NX.trans hk3⟩
              · rw [List.map_append, List.range_succ]
                exact congrArg (· ++ [k]) HPRE.out
              · rw [HSM.out, HPP.out]; go_num
            case measure => simp [intOf]; omega
          · gi_wp2
            refine bodyPost_ret (results_none rfl _ _ _) rfl ?_
            exact ⟨⟨_, rfl⟩, .inr ⟨_, trivial, hJx3⟩⟩
      · have hq : min m r = r := Nat.min_eq_right (by omega)
        rw [hq] at hy
        have g1 : (r : Int) < (m : Int) := by omega
        have g2 : (p : Int) + (r : Int) ≤ (cap : Int) := by omega
        have g3 : (p : Int) ≤ (p : Int) + (r : Int) := by omega
        have g4 : ((p : Int) + (r : Int)) ≤ 9223372036854775807 := by omega
        gi_wp2
        gi_region
        all_goals gi_wp2
        all_goals
          refine HR.out.mono ?_
          rintro e W3 (⟨rfl, hJ3, hk3⟩ | ⟨rfl, hJx3⟩)
          · have hbn3 := fin W3 ⟨hJ3, hk3⟩
            gi_wp2
            go_roundw
            case rel =>
              refine ⟨k + 1, pre ++ [⟨k, hlt⟩], hlt, ?_, ?_, hJ3, NX.trans hk3⟩
              · rw [List.map_append, List.range_succ]
                exact congrArg (· ++ [k]) HPRE.out
              · rw [HSM.out, HPP.out]; go_num
            case measure => simp [intOf]; omega
          · gi_wp2
            refine bodyPost_ret (results_none rfl _ _ _) rfl ?_
            exact ⟨⟨_, rfl⟩, .inr ⟨_, trivial, hJx3⟩⟩
    · have hkk : k = chCnt len m := by omega
      have hend : ¬ k * m < len := by rw [← hiff]; exact hlt
      obtain ⟨p, hp⟩ : ∃ p, k * m = p := ⟨_, rfl⟩
      rw [hp] at hend ⊢
      have hend' : ¬ (p : Int) < (len : Int) := by omega
      clear hiff hp
      gi_wp2
      go_end0
      exact ⟨⟨_, rfl⟩, .inl ⟨pre, hpre.trans (by rw [hkk]), hJs⟩⟩
theorem c_chunk (a : Option Addr) (len cap m : Nat) (hm : 1 ≤ m) (w : World) : Calls Try.prog 152 #[.slice a len cap, .int .i64 m] w fun e w' =>
    e = .returned (.func (.func 177) #[] #[.pointer (some ⟨w.heap.size, 0, none⟩), .pointer (some ⟨w.heap.size + 1, 0, none⟩)]) ∧ w' = (w.alloc (.cells #[.slice a len cap] 25)).alloc (.cells #[.int .i64 m] 3) := by
  have hm1 : (1 : Int) ≤ (m : Int) := by omega
  clear hm
  go_enter Try.func152, Try.ntmps152
  go_wp2
  go_ret
  exact ⟨rfl, rfl⟩
def chW (a : Option Addr) (n m k : Nat) : Value := .slice (a.map fun p => ⟨p.block, p.off + k * m, none⟩) (chLen n m k) (chLen n m k)
set_option maxRecDepth 100000 in
set_option maxHeartbeats 1000000 in
theorem chunk_nil (n l Bs Bn cap m : Nat) (hn : 1 ≤ n) (J : List (ChI 0 m) → World → Prop) (W : World) (hBs : W.cell? ⟨Bs, 0, none⟩ = some (.slice none 0 cap)) (h0 : J [] W) :
    CallsIn Fence.wide n Try.prog 177 #[.func (.yield l) #[] #[], .pointer (some ⟨Bs, 0, none⟩), .pointer (some ⟨Bn, 0, none⟩)] W fun e W' => (∃ v, e = .returned v) ∧ J [] W' := by
  refine callsIn_of_wp Try.func177 rfl trivial ?_ rfl
  simp only [Try.ntmps177, List.size_toArray, List.length_cons, List.length_nil, Nat.reduceAdd, Nat.reduceSub, Array.replicate_succ, Array.replicate_zero, List.push_toArray, List.append_toArray, List.nil_append, List.cons_append]
  gi_wp2
  gi_loopw [4] (fun i wr => i = .int .i64 0 ∧ J [] wr ∧ wr.cell? ⟨Bs, 0, none⟩ = some (.slice none 0 cap)) (fun _ _ => 0)
  case atStart => exact ⟨rfl, h0, hBs⟩
  case round =>
    obtain ⟨rfl, hJs, hbs⟩ := hrel
    gi_wp2
    go_end0
    exact ⟨⟨_, rfl⟩, hJs⟩
theorem chunk_stops (n Bs Bn : Nat) (hn : 1 ≤ n) (a : Option Addr) (len cap m : Nat) (hm : 1 ≤ m) (hm2 : m ≤ 1048576) (hlen : len ≤ 1048576) (hcap : len ≤ cap) (ha : len = 0 ∧ a = none ∨ ∃ b off, a = some ⟨b, off, none⟩) (w : World) (hBs0 : Bs < w.heap.size) (hBn0 : Bn < w.heap.size)
    (hBs : w.cell? ⟨Bs, 0, none⟩ = some (.slice a len cap)) (hBn : w.cell? ⟨Bn, 0, none⟩ = some (.int .i64 m)) :
    SeqStopsK Fence.wide n Try.prog 177 #[.pointer (some ⟨Bs, 0, none⟩), .pointer (some ⟨Bn, 0, none⟩)] (fun x : ChI len m => #[chW a len m x.1]) (Below w.heap.size) (fun ys => ys.map Subtype.val = List.range (chCnt len m)) (fun _ => True) (chCnt len m) w := fun l J Jx W hW hJ _ hY h0 => by
  have hbs := (hW.cell (p := ⟨Bs, 0, none⟩) hBs0).trans hBs
  have hbn := (hW.cell (p := ⟨Bn, 0, none⟩) hBn0).trans hBn
  rcases ha with ⟨rfl, rfl⟩ | ⟨b, off, rfl⟩
  · refine (chunk_nil n l Bs Bn cap m hn J W hbs h0).mono fun e W' ⟨he, hj⟩ => ⟨he, .inl ⟨[], ?_, hj⟩⟩
    have : chCnt 0 m = 0 := by unfold chCnt; exact Nat.div_eq_of_lt (by omega)
    simp [this]
  · exact chunk1_in n l Bs Bn w.heap.size b off len cap m hn hm hm2 hlen hcap hBs0 hBn0 J Jx W hJ hY hbs hbn h0
theorem info_sl1 : (Try.prog.info? 25).map (fun i => (i.zero, i.size, i.bytes)) = some (some (.slice none 0 0), 1, 24) := by kernel_rfl
set_option maxRecDepth 100000 in
set_option maxHeartbeats 2000000 in
theorem c_appendSeq {α : Type} (gf : FuncId) (lb : Array Value) (ea : α → Option Addr) (en ec : α → Nat) (S Sp : List α → Prop) (N : Nat) (hN : N ≤ 1048576) (w0 w : World) (hb0 : Below w0.heap.size w0 w) (hE : ∀ (xs : Array Value) (wr : World), (callFunc gf xs).run Try.prog wr = .ok (.enter gf xs) wr)
    (hseq : SeqStopsK Fence.wide 5 Try.prog gf lb (fun x => #[.slice (ea x) (en x) (ec x)]) (Below w0.heap.size) S Sp N w0) :
    Calls Try.prog 193 #[.slice none 0 0, .func (.func gf) #[] lb] w fun e w' =>
      ∃ v ys, S ys ∧ e = .returned v ∧ w'.ownsRow w.heap.size 25 1 v (List.length ys) (ys.map fun x => Value.slice (ea x) (en x) (ec x)) ∧ Below w.heap.size w w' := by
  obtain ⟨i0, hi, hz0, hz1, hz2⟩ := info_parts info_sl1
  refine (callsIn_wide (n := 6)).1 ?_
  refine callsIn_of_wp_marks Try.func193 rfl trivial ?_ rfl
  simp only [Try.ntmps193, List.size_toArray, List.length_cons, List.length_nil, Nat.reduceAdd, Nat.reduceSub, Array.replicate_succ, Array.replicate_zero, List.push_toArray, List.append_toArray, List.nil_append, List.cons_append]
  gi_wp2
  have bO := Boxed.new w 51 (.slice none 0 0)
  have hB0 : Below w.heap.size w (w.alloc (.cells #[.slice none 0 0] 51)) := (Below.refl _ w).alloc (Nat.le_refl _) _
  have hB1 : Below w0.heap.size w0 (w.alloc (.cells #[.slice none 0 0] 51)) := Below.next hb0 hB0
  refine wpIn_rangeFunc_ownG rfl (by omega) (gf := gf) (lb := lb) rfl trivial hE
    hseq belowK_t (belowK_b (by have := hb0.size; simp; omega)) hB1 (fun _ => rfl)
    (fun pre W => (∃ v, Boxed W w.heap.size 51 v ∧ W.ownsRow w.heap.size 25 1 v pre.length (pre.map fun x => Value.slice (ea x) (en x) (ec x)) ∧ True) ∧ pre.length ≤ N ∧ Below w.heap.size w W)
    (fun _ _ _ => False)
    (OwnFrom.and (Own.from (holdsRow_own w.heap.size w.heap.size 51 25 1 (fun pre : List α => pre.length) (fun pre => pre.map fun x => Value.slice (ea x) (en x) (ec x)) (fun _ _ => True)) _) (OwnFrom.and (ownFrom_pure _ (fun pre : List α => pre.length ≤ N)) (ownFrom_below (Nat.le_refl _) (by simp))))
    (fun _ _ _ _ _ hs _ _ => hs)
    ⟨⟨_, bO, World.ownsRow_nil _ _ _ _, trivial⟩, Nat.zero_le _, hB0⟩
    (fun x => { tmps := #[.slice none 0 0, .func (.func gf) #[] lb, .pointer (some ⟨w.heap.size, 0, none⟩), undef, .slice none 0 0, Value.slice (ea x) (en x) (ec x), .func (.func gf) #[] lb, Value.slice (ea x) (en x) (ec x), undef, undef, undef, undef, undef], defers := [] }) ?assign ?body ?done ?stop
  case assign =>
    intro l x W K hK
    gi_wp2
    exact hK
  case body =>
    rintro l pre x W ⟨⟨v, hv, hrow, _⟩, hpl, hB⟩ hlt
    have hc := hv.cell
    gi_wp2_with (gi_at_builtin; refine wpListIn_append_own _ rfl _ _ 51 rfl w.heap.size 25 i0 (.slice none 0 0) 1 24 Try.underlying51 hi hz0 hz1 hz2 rfl (by decide) _ _ _ rfl (hrow.alloc _) ⟨W.heap.size, 0, none⟩ 1 1 [.slice (ea x) (en x) (ec x)] rfl rfl (cell_one_new _ _ _) (by simp [Value.oneCell']) (by unfold maxLen; omega) (by omega) (by have := hB.size; simp; omega) ?_; intro v' w1 hown' hgrow _; obtain ⟨g', cap', rfl⟩ := ownsRow_succ hown'; obtain ⟨hv1, hv2, hr2, hk2, hb2⟩ := hv.appended (by decide) hrow hB.size (Nat.le_refl _) hown' hgrow; have hc1 := hv1.cell; have hf1 := hv1.frozen)
    exact ⟨hk2.from _, hb2.mono hb0.size, ⟨⟨_, hv2, by simpa using hr2, trivial⟩, by simp; omega, hB.trans hb2⟩⟩
  case done =>
    rintro D ys W hD hS ⟨⟨v, hv, hrow, _⟩, hpl, hB⟩ hK
    have hc := hv.cell
    gi_wp2
    refine ⟨by simp, .inl ⟨_, _, rfl, run_takeDeferred hK, ?_⟩⟩
    exact ⟨_, results_tmp rfl _ _ _, v, ys, hS, rfl, ownsRow_putObj hrow _ hK rfl, hB.trans (belowK_b (w := w) (Nat.le_refl _) W D _ _ (by simp at hD; omega) hK rfl rfl)⟩
  case stop =>
    rintro D c pre W _ _ h _
    exact h.elim
theorem c_collect {α : Type} (gf : FuncId) (lb : Array Value) (ea : α → Option Addr) (en ec : α → Nat) (S Sp : List α → Prop) (N : Nat) (hN : N ≤ 1048576) (w0 w : World) (hb0 : Below w0.heap.size w0 w) (hE : ∀ (xs : Array Value) (wr : World), (callFunc gf xs).run Try.prog wr = .ok (.enter gf xs) wr)
    (hseq : SeqStopsK Fence.wide 5 Try.prog gf lb (fun x => #[.slice (ea x) (en x) (ec x)]) (Below w0.heap.size) S Sp N w0) :
    Calls Try.prog 186 #[.func (.func gf) #[] lb] w fun e w' =>
      ∃ v ys, S ys ∧ e = .returned v ∧ w'.ownsRow w.heap.size 25 1 v (List.length ys) (ys.map fun x => Value.slice (ea x) (en x) (ec x)) ∧ Below w.heap.size w w' := by
  have HS := Lib.hid (c_appendSeq gf lb ea en ec S Sp N hN w0 w hb0 hE hseq)
  clear hseq hE
  go_enter Try.func186, Try.ntmps186
  go_wp2_with fail
  refine HS.out.mono ?_
  rintro e w' ⟨v, ys, hS, rfl, ho, hb⟩
  go_wp2_with fail
  go_ret
  exact ⟨v, ys, hS, rfl, ho, hb⟩
theorem parts_one {w : World} {b off n cap m k : Nat} {z : List Nat} (h : IsFloats .f32 w (some ⟨b, off, none⟩) n cap z) (hk : k * m ≤ n) :
    IsFloats .f32 w (some ⟨b, off + k * m, none⟩) (((z.drop (k * m)).take m).length) (chLen n m k) ((z.drop (k * m)).take m) ∧ ((z.drop (k * m)).take m).length = chLen n m k := by
  obtain ⟨h1, h2, h3, h4, h5⟩ := h
  have hl : ((z.drop (k * m)).take m).length = chLen n m k := by simp [chLen, h3]
  refine ⟨⟨by omega, ?_, rfl, fun x hx => h4 x (List.mem_of_mem_drop (List.mem_of_mem_take hx)), ?_⟩, hl⟩
  · have : chLen n m k ≤ n := by unfold chLen; omega
    omega
  · rcases h5 with h0 | ⟨b', o', e, hb, hc⟩
    · left; rw [hl]; unfold chLen; omega
    · simp only [Option.some.injEq, Addr.mk.injEq] at e
      obtain ⟨rfl, rfl, _⟩ := e
      refine .inr ⟨b, off + k * m, rfl, hb, fun i hi => ?_⟩
      have hi' : k * m + i < n := by rw [hl] at hi; unfold chLen at hi; omega
      have hi2 : i < m := by rw [hl] at hi; unfold chLen at hi; omega
      rw [Nat.add_assoc, hc _ hi']
      congr 2
      simp [List.getD, hi2, List.getElem?_drop]
theorem c_parts (b off n cap m : Nat) (z : List Nat) (w : World) (h : IsFloats .f32 w (some ⟨b, off, none⟩) n cap z) (hm : 1 ≤ m) (hm2 : m ≤ 1048576) (hn : n ≤ 1048576) (Bs Bn : Nat) (hBs0 : Bs < w.heap.size) (hBn0 : Bn < w.heap.size)
    (hBs : w.cell? ⟨Bs, 0, none⟩ = some (.slice (some ⟨b, off, none⟩) n cap)) (hBn : w.cell? ⟨Bn, 0, none⟩ = some (.int .i64 m)) :
    Calls Try.prog 186 #[.func (.func 177) #[] #[.pointer (some ⟨Bs, 0, none⟩), .pointer (some ⟨Bn, 0, none⟩)]] w fun e w' =>
      ∃ g c ls, e = .returned (.slice g (List.length ls) c) ∧ SSAt w' g ls.length c ls ∧ ls.map FlA.z = (List.range (chCnt n m)).map (fun k => (z.drop (k * m)).take m) ∧ Below w.heap.size w w' := by
  have hcn : chCnt n m ≤ 1048576 := by
    unfold chCnt
    have : (n + m - 1) / m ≤ n := by
      rw [Nat.div_le_iff_le_mul_add_pred (by omega)]
      have := Nat.le_mul_of_pos_left n (show 0 < m by omega)
      omega
    omega
  refine (c_collect _ _ (fun x : ChI n m => some ⟨b, off + x.1 * m, none⟩) (fun x => chLen n m x.1) (fun x => chLen n m x.1) _ _ (chCnt n m) hcn w w (Below.refl _ _) (enters_of Try.func177 (by kernel_rfl) rfl) (chunk_stops 5 Bs Bn (by omega) (some ⟨b, off, none⟩) n cap m hm hm2 hn h.1 (.inr ⟨b, off, rfl⟩) w hBs0 hBn0 hBs hBn)).mono ?_
  rintro e w' ⟨v, ys, hS, rfl, ho, hb⟩
  obtain ⟨g, c, rfl⟩ : ∃ g c, v = .slice g ys.length c := by
    rcases ho.2 with ⟨rfl, h0⟩ | ⟨g, c, cur, rfl, _⟩
    · exact ⟨none, 0, by rw [h0]⟩
    · exact ⟨_, _, rfl⟩
  refine ⟨g, c, ys.map fun x => ⟨(z.drop (x.1 * m)).take m, some ⟨b, off + x.1 * m, none⟩, chLen n m x.1⟩, by simp, ?_, ?_, hb⟩
  · have hcap : ys.length ≤ c ∧ c ≤ maxLen := by
      rcases ho.2 with ⟨hv, h0⟩ | ⟨g', c', cur, hv, _, _, h1, h2, _⟩
      · simp only [Value.slice.injEq] at hv; omega
      · simp only [Value.slice.injEq] at hv; omega
    have hkm : ∀ x : ChI n m, x.1 * m ≤ n := fun x => Nat.le_of_lt ((chCnt_lt hm).1 x.2)
    refine ⟨by simp, by simpa using hcap.1, hcap.2, ?_, ?_⟩
    · intro x hx
      obtain ⟨y, _, rfl⟩ := List.mem_map.1 hx
      exact ((parts_one h (hkm y)).1).kept hb
    · rw [List.length_map]
      rcases ho.2 with ⟨hv, h0⟩ | ⟨g', c', cur, hv, _, hg, _⟩
      · exact .inl h0
      · simp only [Value.slice.injEq] at hv
        obtain ⟨rfl, _, rfl⟩ := hv
        refine .inr ⟨g', 0, rfl, (Array.getElem?_eq_some_iff.1 hg).1, fun i x hx => ?_⟩
        rw [List.getElem?_map, Option.map_eq_some_iff] at hx
        obtain ⟨y, hy, rfl⟩ := hx
        have hi := (List.getElem?_eq_some_iff.1 hy).1
        rw [Nat.zero_add, ho.cellAt i (by omega), List.getElem?_map, hy]
        simp only [Option.map_some, FlA.v, (parts_one h (hkm y)).2]
  · rw [List.map_map]
    have : ys.map (FlA.z ∘ fun x : ChI n m => ⟨(z.drop (x.1 * m)).take m, some ⟨b, off + x.1 * m, none⟩, chLen n m x.1⟩) = (ys.map Subtype.val).map (fun k => (z.drop (k * m)).take m) := by
      rw [List.map_map]; rfl
    rw [this, hS]
end Go.Proofs.Ytpdgpoonblldgaa
