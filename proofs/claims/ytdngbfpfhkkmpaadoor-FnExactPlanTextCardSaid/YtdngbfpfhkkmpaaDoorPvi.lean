/-
  Which plans are valid: the program. Conditions: the cells can be read.
-/
import Derived.Test.YtdngbfpfhkkmpaaDoorPvl
import Derived.Test.YtdngbfpfhkkmpaaDoorFun
namespace Go.Proofs.YtdngbfpfhkkmpaaDoor
open Go.RowKit Go.Sort Go.Deep Go.WideShapes Go.ChangeShapes
set_option linter.unusedVariables false
set_option linter.unusedSimpArgs false

set_option maxRecDepth 20000 in
set_option maxHeartbeats 1000000 in
theorem c_layer (k i o : Int) (a b c : Option Addr) (n m s ca cb cc : Nat) (rl : Bool) (w : World) :
    Calls Tryd.prog 24 #[.agg #[.int .i64 k, .int .i64 i, .int .i64 o, .slice a n ca, .slice b m cb, .slice c s cc, .bool rl]] w fun e w' => e = .returned (.agg #[.int .i64 k, .int .i64 i, .int .i64 o, .slice a n ca, .slice b m cb]) ∧ Below w.heap.size w w' := by
  go_enter Tryd.func24, Tryd.ntmps24
  go_wp2
  refine bodyPost_ret (v := .agg #[.int .i64 k, .int .i64 i, .int .i64 o, .slice a n ca, .slice b m cb]) (by simp [results, Tryd.results24, go_sem]) rfl ⟨rfl, ?_⟩
  repeat (first | exact ((Below.refl _ _).alloc (Nat.le_refl _) _).alloc (by simp) _ | refine Below.setCell ?_ (by simp) _)
set_option maxRecDepth 20000 in
set_option maxHeartbeats 1000000 in
theorem c_hasEnd (k i o : Int) (a b c : Option Addr) (n m s ca cb cc : Nat) (rl v : Bool) (hv : pEndB k o s rl = v) (w : World) :
    Calls Tryd.prog 26 #[.agg #[.int .i64 k, .int .i64 i, .int .i64 o, .slice a n ca, .slice b m cb, .slice c s cc, .bool rl]] w fun e w' => e = .returned (.bool v) ∧ Below w.heap.size w w' := by
  have bal := (Below.refl w.heap.size w).alloc (Nat.le_refl _) (.cells #[.int .i64 k, .int .i64 i, .int .i64 o, .slice a n ca, .slice b m cb, .slice c s cc, .bool rl] 45)
  unfold pEndB at hv
  cases rl with
  | true =>
    simp only [if_true] at hv
    by_cases hk : k = 0
    · subst hk
      subst hv
      go_enter Tryd.func26, Tryd.ntmps26
      go_wp2
      go_ret
      exact ⟨ret_b (by by_cases h : s = 0 <;> simp [h]), bal⟩
    · have hv' : v = false := by rw [← hv]; simp [hk]
      subst hv'
      clear hv
      go_enter Tryd.func26, Tryd.ntmps26
      go_wp2
      go_ret
      exact ⟨ret_b (by simp [hk]), bal⟩
  | false =>
    simp only [Bool.false_eq_true, if_false] at hv
    by_cases hs : s = 0
    · subst hs
      have hv' : v = true := by rw [← hv]; simp
      subst hv'
      clear hv
      go_enter Tryd.func26, Tryd.ntmps26
      go_wp2
      go_ret
      exact ⟨rfl, bal⟩
    · have hs' : (0 : Int) < (s : Int) := by omega
      by_cases hk : k = 0
      · subst hk
        have hv' : v = decide ((s : Int) = o) := by rw [← hv]; simp [hs]
        subst hv'
        clear hv
        go_enter Tryd.func26, Tryd.ntmps26
        go_wp2
        go_ret
        exact ⟨ret_b (by by_cases h : (s : Int) = o <;> simp [h]), bal⟩
      · have hv' : v = false := by rw [← hv]; simp [hk, hs]
        subst hv'
        clear hv
        go_enter Tryd.func26, Tryd.ntmps26
        go_wp2
        go_ret
        exact ⟨ret_b (by simp [hk]), bal⟩
theorem info_lay2 : (Tryd.prog.info? 59).map (fun i => (i.zero, i.size, i.bytes)) = some (some (.agg #[.int .i64 0, .int .i64 0, .int .i64 0, .slice none 0 0, .slice none 0 0]), 5, 72) := by kernel_rfl
theorem prow_kept {w w' : World} {B : Nat} {t : TypeId} {sz n : Nat} {v : Value} {xs : List Value} (h : w.ownsRow B t sz v n xs) (hb : Below w.heap.size w w') : w'.ownsRow B t sz v n xs :=
  h.kept (row := none) ⟨hb.os, hb.tape, hb.output, hb.size, fun j hj _ => hb.block j hj⟩ (by cases v.ownBlock <;> simp)
theorem prow_cell {w : World} {B : Nat} {t : TypeId} {sz n cap g : Nat} {xs : List Value} (h : w.ownsRow B t sz (.slice (some ⟨g, 0, none⟩) n cap) n xs) (j : Nat) (hj : j < n * sz) : w.frozen? ⟨g, j, none⟩ = false ∧ ∃ v, w.cell? ⟨g, j, none⟩ = some v := by
  refine ⟨h.frozenAt j, ?_⟩
  rw [h.cellAt j hj]
  exact ⟨_, List.getElem?_eq_getElem (by rw [h.1]; exact hj)⟩
theorem pstore5 {w : World} {B : Nat} {t : TypeId} {n cap g k : Nat} {xs : List Value} {v0 v1 v2 v3 v4 : Value} (h : w.ownsRow B t 5 (.slice (some ⟨g, 0, none⟩) n cap) n xs) (hk : k < n) :
    ∃ ys, (((((w.setCell ⟨g, k * 5, none⟩ v0).setCell ⟨g, k * 5 + 1, none⟩ v1).setCell ⟨g, k * 5 + 2, none⟩ v2).setCell ⟨g, k * 5 + 3, none⟩ v3).setCell ⟨g, k * 5 + 4, none⟩ v4).ownsRow B t 5 (.slice (some ⟨g, 0, none⟩) n cap) n ys ∧ ys.take ((k + 1) * 5) = xs.take (k * 5) ++ [v0, v1, v2, v3, v4] := by
  have hl := h.1
  have hkn : k * 5 + 5 ≤ n * 5 := by omega
  refine ⟨_, (((((h.stored (k * 5) v0).1.stored (k * 5 + 1) v1).1.stored (k * 5 + 2) v2).1.stored (k * 5 + 3) v3).1.stored (k * 5 + 4) v4).1, ?_⟩
  rw [show (k + 1) * 5 = k * 5 + 4 + 1 by omega, take_set_succ _ _ _ (by first | (simp; omega) | omega), take_set_succ _ _ _ (by first | (simp; omega) | omega), take_set_succ _ _ _ (by first | (simp; omega) | omega), take_set_succ _ _ _ (by first | (simp; omega) | omega), take_set_succ _ _ _ (by first | (simp; omega) | omega)]
  simp
def EachPRel (ls : List PstA) (n gd : Nat) (w : World) (iv : Value) (wr : World) : Prop :=
  ∃ (k : Nat) (cur : List Value), k ≤ n ∧ iv = .int .i64 k ∧ wr.ownsRow w.heap.size 59 5 (.slice (some ⟨gd, 0, none⟩) n n) n cur ∧ cur.take (k * 5) = vs (laysC ((ls.take k).map PstA.lay)) ∧ Below w.heap.size w wr
theorem lays_end {w wr : World} {g : Option Addr} {cap n gd : Nat} {ls : List PstA} (h : PstsAt w g n cap ls) (hb : Below w.heap.size w wr) (ho : wr.ownsRow w.heap.size 59 5 (.slice (some ⟨gd, 0, none⟩) n n) n (vs (laysC (ls.map PstA.lay)))) :
    LaysAt wr (some ⟨gd, 0, none⟩) n n (ls.map PstA.lay) := by
  have hk := h.kept hb
  refine ⟨by rw [List.length_map]; exact h.1, Nat.le_refl _, Nat.le_trans h.2.1 h.2.2.1, ?_, ?_⟩
  · rw [AtL_iff]
    intro c hc
    obtain ⟨y, hy, hcy⟩ := List.mem_flatMap.1 hc
    obtain ⟨x, hx, rfl⟩ := List.mem_map.1 hy
    obtain ⟨i, hi⟩ := List.mem_iff_getElem?.1 hx
    have hf := hk.floats hi
    exact AtL_iff.1 (LayA.at_iff.2 ⟨hf.1, hf.2.1⟩) c hcy
  · by_cases h0 : n = 0
    · exact .inl h0
    · have hlt := (ho.lt _ rfl).2
      refine .inr ⟨gd, 0, rfl, hlt, fun i hi => ?_⟩
      rw [Nat.zero_add]
      exact ho.cellAt i hi
set_option maxRecDepth 20000 in
set_option maxHeartbeats 2000000 in
theorem c_eachPL (g : Option Addr) (cap n : Nat) (ls : List PstA) (w : World) (h : PstsAt w g n cap ls) (hn : n ≤ 1048576) :
    Calls Tryd.prog 23 #[.slice g n cap, .func (.func 24) #[] #[]] w fun e w' => ∃ gd, e = .returned (.slice (some ⟨gd, 0, none⟩) n n) ∧ LaysAt w' (some ⟨gd, 0, none⟩) n n (ls.map PstA.lay) ∧ Below w.heap.size w w' := by
  have hnm : n ≤ maxLen := by have h1 := h.2.1; have h2 := h.2.2.1; omega
  obtain ⟨i0, hi, hz0, hz1, hz2⟩ := info_parts info_lay2
  have HI := Lib.hid hi
  have HZ0 := Lib.hid hz0
  have HZ1 := Lib.hid hz1
  have HZ2 := Lib.hid hz2
  have H := Lib.hid h
  have HM := Lib.hid hnm
  have hE := enters_of Tryd.func24 (by kernel_rfl) (by kernel_rfl)
  clear h hi hz0 hz1 hz2 hnm
  go_enter Tryd.func23, Tryd.ntmps23
  go_wp2_with (at_make; refine wpList_make_full _ rfl _ _ 56 rfl w.heap.size 59 i0 (.agg #[.int .i64 0, .int .i64 0, .int .i64 0, .slice none 0 0, .slice none 0 0]) 5 Tryd.underlying56 HI.out HZ0.out HZ1.out _ _ _ _ n rfl rfl rfl rfl ?c1 ?c2 ?c3 ?_)
  case c1 => rw [HZ2.out]; omega
  case c2 => exact HM.out
  case c3 => exact Nat.le_refl _
  intro w1 hown hgrow
  have hb1 : Below w.heap.size w w1 := (Below.refl _ _).grown hgrow (Nat.le_refl _) (fun k h => by cases h)
  have HO := Lib.hid hown
  have HB := Lib.hid hb1
  clear hown hb1 hgrow
  go_wp2_with fail
  go_loopw [13] (fun iv wr => EachPRel ls n w.heap.size w iv wr) (fun iv _ => n - (intOf iv).toNat)
  case atStart => exact ⟨0, _, Nat.zero_le _, rfl, HO.out, by simp [laysC, vs], HB.out⟩
  case round =>
    obtain ⟨k, cur, hk, rfl, ho, htk, hb⟩ := hrel
    have HO' := Lib.hid ho
    have HT := Lib.hid htk
    have HB' := Lib.hid hb
    clear ho htk hb
    by_cases hlt : k < n
    · obtain ⟨b, off, kd, ii, oo, ws, bs, ss, rl, a0, c0, a1, c1, a2, c2, rfl, hbk, hx, q0, q1, q2, q3, q4, q5, q6, f0, f1, f2⟩ := (H.out.kept HB'.out).one hlt
      have HX := Lib.hid hx
      clear f0 f1 f2 hx
      go_wp2_with fail
      have bal := (Below.refl wr.heap.size wr).alloc (Nat.le_refl _) (.cells #[.int .i64 kd, .int .i64 ii, .int .i64 oo, .slice a0 ws.length c0, .slice a1 bs.length c1, .slice a2 ss.length c2, .bool rl] 45)
      have HBA := Lib.hid (HB'.out.trans (bal.mono HB'.out.size))
      have HOA := Lib.hid (prow_kept HO'.out bal)
      generalize wr.alloc (.cells #[.int .i64 kd, .int .i64 ii, .int .i64 oo, .slice a0 ws.length c0, .slice a1 bs.length c1, .slice a2 ss.length c2, .bool rl] 45) = wa at HBA HOA ⊢
      refine (c_layer kd ii oo a0 a1 a2 ws.length bs.length ss.length c0 c1 c2 rl wa).mono ?_
      rintro e w2 ⟨rfl, bl⟩
      have ho2 := prow_kept HOA.out bl
      obtain ⟨z0, v0, y0⟩ := prow_cell ho2 (k * 5) (by omega)
      obtain ⟨z1, v1, y1⟩ := prow_cell ho2 (k * 5 + 1) (by omega)
      obtain ⟨z2, v2, y2⟩ := prow_cell ho2 (k * 5 + 2) (by omega)
      obtain ⟨z3, v3, y3⟩ := prow_cell ho2 (k * 5 + 3) (by omega)
      obtain ⟨z4, v4, y4⟩ := prow_cell ho2 (k * 5 + 4) (by omega)
      have O2 := Lib.hid ho2
      have HB2 := Lib.hid (Below.next HBA.out bl)
      clear ho2 bl bal q0 q1 q2 q3 q4 q5 q6
      go_wp2_with fail
      clear z0 y0 z1 y1 z2 y2 z3 y3 z4 y4
      go_roundw
      case rel =>
        obtain ⟨cur', hr, ht⟩ := pstore5 O2.out hlt (v0 := .int .i64 kd) (v1 := .int .i64 ii) (v2 := .int .i64 oo) (v3 := .slice a0 ws.length c0) (v4 := .slice a1 bs.length c1)
        refine ⟨k + 1, cur', by omega, by go_num, hr, ?_, ?_⟩
        · rw [ht, HT.out, List.take_add_one, HX.out, List.map_append]
          simp [laysC, vs, PstA.lay, PstP.lay, LayA.cs, flC, Cl.v]
        · exact (((((HB2.out).setCell (p := ⟨w.heap.size, _, none⟩) (Nat.le_refl _) _).setCell (p := ⟨w.heap.size, _, none⟩) (Nat.le_refl _) _).setCell (p := ⟨w.heap.size, _, none⟩) (Nat.le_refl _) _).setCell (p := ⟨w.heap.size, _, none⟩) (Nat.le_refl _) _).setCell (p := ⟨w.heap.size, _, none⟩) (Nat.le_refl _) _
      case measure => simp [intOf]; omega
    · obtain rfl : k = n := by omega
      go_wp2
      go_ret
      have ho := HO'.out
      have hcur : cur = vs (laysC (ls.map PstA.lay)) := by
        have h1 := HT.out
        rw [← ho.1, List.take_length, ← H.out.1, List.take_length] at h1
        exact h1
      rw [hcur] at ho
      exact ⟨w.heap.size, rfl, lays_end H.out HB'.out ho, HB'.out⟩
def AllPRel (p : PstP → Bool) (ls : List PstA) (w : World) (i : Value) (wr : World) : Prop := ∃ k : Nat, k ≤ ls.length ∧ i = .int .i64 k ∧ (ls.take k).all (fun x => p x.p) = true ∧ Below w.heap.size w wr
theorem allP_next {p : PstP → Bool} {ls : List PstA} {k : Nat} {x : PstA} (h : (ls.take k).all (fun x => p x.p) = true) (hx : ls[k]? = some x) (hg : p x.p = true) : (ls.take (k + 1)).all (fun x => p x.p) = true := by
  rw [List.take_add_one, hx, List.all_append, h]
  simp [hg]
theorem allP_no {p : PstP → Bool} {ls : List PstA} {k : Nat} {x : PstA} (hx : ls[k]? = some x) (hg : p x.p = false) : ls.all (fun x => p x.p) = false := by
  rw [List.all_eq_false]
  exact ⟨x, List.mem_of_getElem? hx, by simp [hg]⟩
set_option maxHeartbeats 1000000 in
theorem c_indexP (F : FuncId) (caps : Array Value) (p : PstP → Bool) (g : Option Addr) (n cap : Nat) (ls : List PstA) (w : World) (h : PstsAt w g n cap ls) (hE : ∀ (xs : Array Value) (wr : World), (callFunc F xs).run Tryd.prog wr = .ok (.enter F xs) wr)
    (hF : ∀ (k i o : Int) (ws bs ss : List Nat) (rl : Bool) (a b c : Option Addr) (ca cb cc : Nat) (wr : World), Below w.heap.size w wr → Calls Tryd.prog F (#[.agg #[.int .i64 k, .int .i64 i, .int .i64 o, .slice a ws.length ca, .slice b bs.length cb, .slice c ss.length cc, .bool rl]] ++ caps) wr fun e w' => e = .returned (.bool (!p ⟨k, i, o, ws, bs, ss, rl⟩)) ∧ Below wr.heap.size wr w') :
    Calls Tryd.prog 47 #[.slice g n cap, .func (.func F) #[] caps] w fun e w' => (∃ r : Int, e = .returned (.int .i64 r) ∧ decide (0 ≤ r) = !(ls.all fun x => p x.p)) ∧ Below w.heap.size w w' := by
  have H := Lib.hid h
  have HC := Lib.hid hF
  have hmax : n ≤ 9223372036854775807 := by have h1 := h.2.1; have h2 := h.2.2.1; unfold maxLen at h2; omega
  have HN := Lib.hid h.1
  clear h hF
  go_enter Tryd.func47, Tryd.ntmps47
  go_wp2_with fail
  go_loopw [8] (fun i wr => AllPRel p ls w i wr) (fun i _ => n - (intOf i).toNat)
  case atStart => exact ⟨0, Nat.zero_le _, rfl, by simp, Below.refl _ _⟩
  case round =>
    obtain ⟨k, hk, rfl, hz, hb⟩ := hrel
    have HZ := Lib.hid hz
    have HB := Lib.hid hb
    have hk0 : (0 : Int) ≤ (k : Int) := by omega
    rw [HN.out] at hk
    clear hz hb
    by_cases hlt : k < n
    · have hlt' : (k : Int) < (n : Int) := by omega
      obtain ⟨b, off, kd, ii, oo, ws, bs, ss, rl, a0, c0, a1, c1, a2, c2, rfl, hbk, hx, q0, q1, q2, q3, q4, q5, q6, f0, f1, f2⟩ := (H.out.kept HB.out).one hlt
      have HX := Lib.hid hx
      have HG := Lib.hid (HC.out kd ii oo ws bs ss rl a0 a1 a2 c0 c1 c2 wr HB.out)
      clear hx f0 f1 f2
      cases hg : p ⟨kd, ii, oo, ws, bs, ss, rl⟩ with
      | false =>
        have HY := Lib.hid (allP_no HX.out hg)
        rw [hg] at HG
        clear hg
        go_wp2_with fail
        refine HG.out.mono ?_
        rintro e w2 ⟨rfl, bl⟩
        have HB2 := Lib.hid (Below.next HB.out bl)
        clear bl
        go_wp2_with fail
        go_ret
        exact ⟨⟨_, rfl, by rw [HY.out]; exact decide_eq_true hk0⟩, HB2.out⟩
      | true =>
        have HNN := Lib.hid (allP_next HZ.out HX.out hg)
        rw [hg] at HG
        clear hg
        go_wp2_with fail
        refine HG.out.mono ?_
        rintro e w2 ⟨rfl, bl⟩
        have HB2 := Lib.hid (Below.next HB.out bl)
        clear bl
        go_wp2_with fail
        go_roundw
        case rel => exact ⟨k + 1, by rw [HN.out]; omega, by go_num, HNN.out, HB2.out⟩
        case measure => simp [intOf]; omega
    · obtain rfl : k = n := by omega
      have HNN := Lib.hid (show (ls.all fun x => p x.p) = true by have h1 := HZ.out; rwa [List.take_of_length_le (by rw [HN.out]; exact Nat.le_refl _)] at h1)
      go_wp2_with fail
      go_ret
      exact ⟨⟨_, rfl, by rw [HNN.out]; rfl⟩, HB.out⟩
theorem c_containsP (F : FuncId) (caps : Array Value) (p : PstP → Bool) (g : Option Addr) (n cap : Nat) (ls : List PstA) (w : World) (h : PstsAt w g n cap ls) (hE : ∀ (xs : Array Value) (wr : World), (callFunc F xs).run Tryd.prog wr = .ok (.enter F xs) wr)
    (hF : ∀ (k i o : Int) (ws bs ss : List Nat) (rl : Bool) (a b c : Option Addr) (ca cb cc : Nat) (wr : World), Below w.heap.size w wr → Calls Tryd.prog F (#[.agg #[.int .i64 k, .int .i64 i, .int .i64 o, .slice a ws.length ca, .slice b bs.length cb, .slice c ss.length cc, .bool rl]] ++ caps) wr fun e w' => e = .returned (.bool (!p ⟨k, i, o, ws, bs, ss, rl⟩)) ∧ Below wr.heap.size wr w') :
    Calls Tryd.prog 37 #[.slice g n cap, .func (.func F) #[] caps] w fun e w' => e = .returned (.bool (!(ls.all fun x => p x.p))) ∧ Below w.heap.size w w' := by
  have HI := Lib.hid (c_indexP F caps p g n cap ls w h hE hF)
  clear h hF
  go_enter Tryd.func37, Tryd.ntmps37
  go_wp2_with fail
  refine HI.out.mono ?_
  rintro e w2 ⟨⟨r, rfl, hr⟩, bl⟩
  have HR := Lib.hid hr
  have HB := Lib.hid bl
  clear hr bl
  go_wp2_with fail
  go_ret
  exact ⟨ret_b (by rw [← HR.out]), HB.out⟩
set_option maxHeartbeats 1000000 in
theorem c_isAllP (g : Option Addr) (n cap : Nat) (ls : List PstA) (w : World) (h : PstsAt w g n cap ls) :
    Calls Tryd.prog 25 #[.slice g n cap, .func (.func 26) #[] #[]] w fun e w' => e = .returned (.bool ((ls.map PstA.p).all pEnd)) ∧ Below w.heap.size w w' := by
  have K := Lib.hid (Blk.new w 65 #[.func (.func 26) #[] #[]])
  have al := (Below.refl w.heap.size w).alloc (Nat.le_refl _) (.cells #[.func (.func 26) #[] #[]] 65)
  have B := Lib.hid al
  have HF := Lib.hid (h.kept al)
  have hE := enters_of Tryd.func26 (by kernel_rfl) (by kernel_rfl)
  have H1 : ∀ (k i o : Int) (ws bs ss : List Nat) (rl : Bool) (a b c : Option Addr) (ca cb cc : Nat) (wr : World), Below (w.alloc (.cells #[.func (.func 26) #[] #[]] 65)).heap.size (w.alloc (.cells #[.func (.func 26) #[] #[]] 65)) wr → Calls Tryd.prog 38 (#[.agg #[.int .i64 k, .int .i64 i, .int .i64 o, .slice a ws.length ca, .slice b bs.length cb, .slice c ss.length cc, .bool rl]] ++ #[.pointer (some ⟨w.heap.size, 0, none⟩)]) wr fun e w' => e = .returned (.bool (!pEnd ⟨k, i, o, ws, bs, ss, rl⟩)) ∧ Below wr.heap.size wr w' := by
    intro k i o ws bs ss rl a b c ca cb cc wr hb
    show Calls Tryd.prog 38 #[.agg #[.int .i64 k, .int .i64 i, .int .i64 o, .slice a ws.length ca, .slice b bs.length cb, .slice c ss.length cc, .bool rl], .pointer (some ⟨w.heap.size, 0, none⟩)] _ _
    have KW := K.out.below hb
    have c0 := KW.cell 0
    have bal := (Below.refl wr.heap.size wr).alloc (Nat.le_refl _) (.cells #[.int .i64 k, .int .i64 i, .int .i64 o, .slice a ws.length ca, .slice b bs.length cb, .slice c ss.length cc, .bool rl] 45)
    have hne : ¬ wr.heap.size = w.heap.size := by have := KW.lt; omega
    have hne' : ¬ w.heap.size = wr.heap.size := by omega
    have HB := Lib.hid bal
    obtain ⟨v, hv⟩ : ∃ v, pEndB k o ss.length rl = v := ⟨_, rfl⟩
    have HV := Lib.hid hv
    have HP := Lib.hid (show pEnd ⟨k, i, o, ws, bs, ss, rl⟩ = v from hv)
    simp only [List.getElem?_toArray, List.getElem?_cons_zero] at c0
    have c1 := (bal.cell (p := ⟨w.heap.size, 0, none⟩) KW.lt).trans c0
    have KB := Blk.new wr 45 #[.int .i64 k, .int .i64 i, .int .i64 o, .slice a ws.length ca, .slice b bs.length cb, .slice c ss.length cc, .bool rl]
    clear al h hb bal hv KW c0
    go_enter Tryd.func38, Tryd.ntmps38
    go_wp2_with fail
    refine (c_hasEnd k i o a b c ws.length bs.length ss.length ca cb cc rl v HV.out _).mono ?_
    rintro e w2 ⟨rfl, bl⟩
    have HB2 := Lib.hid (Below.next HB.out bl)
    clear bl
    go_wp2_with fail
    go_ret
    exact ⟨ret_b (by rw [HP.out]), HB2.out⟩
  have HC := Lib.hid (c_containsP 38 #[.pointer (some ⟨w.heap.size, 0, none⟩)] pEnd g n cap ls _ HF.out (enters_of Tryd.func38 (by kernel_rfl) (by kernel_rfl)) H1)
  clear H1 h al
  go_enter Tryd.func25, Tryd.ntmps25
  go_wp2_with fail
  refine HC.out.mono ?_
  rintro e w2 ⟨rfl, bl⟩
  have HB2 := Lib.hid (Below.next B.out bl)
  clear bl
  go_wp2_with fail
  go_ret
  exact ⟨ret_b (by rw [List.all_map]; rfl), HB2.out⟩
end Go.Proofs.YtdngbfpfhkkmpaaDoor
