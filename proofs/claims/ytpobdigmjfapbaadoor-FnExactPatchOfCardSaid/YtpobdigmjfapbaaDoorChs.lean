/-
  Where two states differ: the model. Conditions: the cells can be read.
-/
import Derived.Test.YtpobdigmjfapbaaDoorAln
import Derived.Test.YtpobdigmjfapbaaDoorGrJ
import Derived.BigQuiet
import Derived.Lib.QuietBelow
import Derived.Deep.QuietTactic
namespace Go.Proofs.YtpobdigmjfapbaaDoor
open Go.RowKit Go.Deep Go.WideShapes Go.ChangeShapes Go.Sort
set_option linter.unusedVariables false
attribute [local go_sem] World.drewN_zero

/-! what it says -/
def fmP (p : LayP) : Int × Int × Int := (p.k, p.i, p.o)
def fmA (x : LayA) : Int × Int × Int := fmP x.p
def formsB (ps ps' : List LayP) : Bool := decide (ps.map fmP = ps'.map fmP)
theorem formsB_A (ls ls' : List LayA) : formsB (ls.map LayA.p) (ls'.map LayA.p) = decide (ls.map fmA = ls'.map fmA) := by
  unfold formsB
  rw [decide_eq_decide, List.map_map, List.map_map]
  exact Iff.rfl
def fitTB (q r : TrsA) : Bool := stbB q && (stbB r && (formsB q.ps r.ps && decide (q.ss.length = r.ss.length)))
def difB (xs ys : List Nat) (i : Nat) : Bool := !decide (canon .f32 (xs.getD i 0) = canon .f32 (ys.getD i 0))
def chgU (xs ys : List Nat) (k : Nat) : List Int := ((List.range k).filter (difB xs ys)).map (fun i : Nat => (i : Int))
def chgL (xs ys : List Nat) : List Int := chgU xs ys xs.length
def vChangedNumbers (q r : TrsA) : Bool × List Int := if fitTB q r = true then (true, chgL (allN q) (allN r)) else (false, [])
theorem fitTB_of {q q' r r' : TrsA} (h : TrsEq q q') (h' : TrsEq r r') : fitTB q r = fitTB q' r' := by
  have e1 : q.ss.length = q'.ss.length := by simpa [TrsA.zs] using congrArg List.length h.2.1
  have e2 : r.ss.length = r'.ss.length := by simpa [TrsA.zs] using congrArg List.length h'.2.1
  unfold fitTB
  rw [stbB_of h, stbB_of h', h.1, h'.1, e1, e2]
theorem vChangedNumbers_of {q q' r r' : TrsA} (h : TrsEq q q') (h' : TrsEq r r') : vChangedNumbers q r = vChangedNumbers q' r' := by
  unfold vChangedNumbers
  rw [fitTB_of h h', allN_of h, allN_of h']
theorem chgU_le (xs ys : List Nat) (k : Nat) : (chgU xs ys k).length ≤ k := by
  unfold chgU
  rw [List.length_map]
  exact Nat.le_trans (List.length_filter_le _ _) (by simp)
theorem chgU_yes {xs ys : List Nat} {k : Nat} (h : difB xs ys k = true) : chgU xs ys (k + 1) = chgU xs ys k ++ [(k : Int)] := by
  unfold chgU
  rw [List.range_succ, List.filter_append, List.map_append]
  simp [h]
theorem chgU_no {xs ys : List Nat} {k : Nat} (h : difB xs ys k = false) : chgU xs ys (k + 1) = chgU xs ys k := by
  unfold chgU
  rw [List.range_succ, List.filter_append, List.map_append]
  simp [h]
theorem wf_natL {n : Nat} (h : n ≤ 100000) : (Lit.int .i64 (n : Int)).wf = true := by
  have h1 : (-9223372036854775808 : Int) ≤ (n : Int) := by omega
  have h2 : (n : Int) ≤ 9223372036854775807 := by omega
  show (decide ((-9223372036854775808 : Int) ≤ (n : Int)) && decide ((n : Int) ≤ 9223372036854775807)) = true
  rw [decide_eq_true h1, decide_eq_true h2]
  rfl
theorem vOne_same {p p' : LayP} (h : vOne p = true) (h' : vOne p' = true) (e : fmP p = fmP p') : p.n = p'.n := by
  unfold vOne at h h'
  rw [vLay_iff] at h h'
  simp only [fmP, Prod.mk.injEq] at e
  obtain ⟨_, _, _, _, h5, h6⟩ := h
  obtain ⟨_, _, _, _, h5', h6'⟩ := h'
  rw [← e.1, ← e.2.1, ← e.2.2] at h5' h6'
  unfold LayP.n
  omega
theorem laySum_same : ∀ {ps ps' : List LayP}, (∀ p ∈ ps, vOne p = true) → (∀ p ∈ ps', vOne p = true) → ps.map fmP = ps'.map fmP → laySum ps = laySum ps'
  | [], [], _, _, _ => rfl
  | [], _ :: _, _, _, e => by simp at e
  | _ :: _, [], _, _, e => by simp at e
  | p :: ps, p' :: ps', h, h', e => by
    simp only [List.map_cons, List.cons.injEq] at e
    have h1 := vOne_same (h p (List.mem_cons_self ..)) (h' p' (List.mem_cons_self ..)) e.1
    have h2 := laySum_same (fun x hx => h x (List.mem_cons_of_mem _ hx)) (fun x hx => h' x (List.mem_cons_of_mem _ hx)) e.2
    simp only [laySum, List.map_cons, List.sum_cons] at h2 ⊢
    omega
theorem vMod_all {ps : List LayP} (h : vMod ps = true) : ∀ p ∈ ps, vOne p = true := by
  unfold vMod at h
  simp only [Bool.and_eq_true] at h
  intro p hp
  obtain ⟨i, hi, rfl⟩ := List.mem_iff_getElem.1 hp
  exact okUp_all _ h.2 i _ hi (List.getElem?_eq_getElem hi)
theorem fit_len {q r : TrsA} (h : fitTB q r = true) : (allN q).length = (allN r).length ∧ (allN q).length ≤ 2160 := by
  simp only [fitTB, formsB, Bool.and_eq_true, decide_eq_true_eq] at h
  obtain ⟨h1, h2, h3, h4⟩ := h
  obtain ⟨p1, _, p3⟩ := stbB_parts h1
  obtain ⟨r1, _, r3⟩ := stbB_parts h2
  have e := laySum_same (vMod_all p1) (vMod_all r1) h3
  refine ⟨?_, allN_len h1⟩
  unfold allN
  rw [List.length_append, List.length_append, parOf_length, parOf_length, catS_len _ _ p3, catS_len _ _ r3, e, h4]
theorem vChangedNumbers_len (q r : TrsA) : (vChangedNumbers q r).2.length ≤ 1048576 := by
  unfold vChangedNumbers
  split
  · rename_i h
    have h1 := (fit_len h).2
    have h2 := chgU_le (allN q) (allN r) (allN q).length
    show (chgU (allN q) (allN r) (allN q).length).length ≤ _
    omega
  · simp
theorem map_takeF {α β : Type} {f : α → β} {ls ls' : List α} {k : Nat} {x y : α} (h : (ls.take k).map f = (ls'.take k).map f) (hx : ls[k]? = some x) (hy : ls'[k]? = some y) (he : f x = f y) : (ls.take (k + 1)).map f = (ls'.take (k + 1)).map f := by
  rw [List.take_add_one, List.take_add_one, hx, hy, List.map_append, List.map_append, h]
  simp [he]
theorem map_neF {α β : Type} {f : α → β} {ls ls' : List α} {k : Nat} {x y : α} (hx : ls[k]? = some x) (hy : ls'[k]? = some y) (he : f x ≠ f y) : ls.map f ≠ ls'.map f := by
  intro h
  have h1 : (ls.map f)[k]? = (ls'.map f)[k]? := by rw [h]
  rw [List.getElem?_map, List.getElem?_map, hx, hy] at h1
  exact he (by simpa using h1)
/-! a list of integers that grows by one -/
theorem growL_next {B : Nat} {w wr w' : World} {b a' : Option Addr} {cp cp' : Nat} {v : Int} {ys : List Int} (ho : OwnI wr B b cp ys) (hB : w.heap.size ≤ B) (hl : Below w.heap.size w wr) (hv : (Lit.int .i64 v).wf = true)
    (hown : w'.ownsRow B 2 1 (.slice a' (ys.length + 1) cp') (ys.length + 1) (ys.map toV ++ [.int .i64 v])) (hg : (wr.alloc (.cells #[.int .i64 v] 2)).grownBy w' (Value.ownBlock (.slice b ys.length cp))) :
    OwnI w' B a' cp' (ys ++ [v]) ∧ Below w.heap.size w w' := by
  rw [ownBlock_slice] at hg
  have bw : Below wr.heap.size wr (wr.alloc (.cells #[.int .i64 v] 2)) := (Below.refl _ _).alloc (Nat.le_refl _) _
  have ho1 := ho.kept bw
  refine ⟨⟨by simpa [toV] using hown, fun y hy' => ?_⟩, (hl.trans (bw.mono hl.size)).grown hg (Nat.le_trans hl.size bw.size) (fun g h => Nat.le_trans hB (ho1.lt g h).1)⟩
  rcases List.mem_append.1 hy' with h | h
  · exact ho.2 y h
  · simp at h; subst h; exact hv
def ChgRel (xs ys : List Nat) (n : Nat) (w : World) (s i : Value) (wr : World) : Prop :=
  ∃ (k : Nat) (a : Option Addr) (c : Nat), k ≤ n ∧ i = .int .i64 k ∧ s = .slice a (chgU xs ys k).length c ∧ OwnI wr w.heap.size a c (chgU xs ys k) ∧ Below w.heap.size w wr
theorem flt_at {w : World} {a : Option Addr} {n cap : Nat} {zs : List Nat} (h : IsFloats .f32 w a n cap zs) {i : Nat} (hi : i < n) : ∃ b off, a = some ⟨b, off, none⟩ ∧ b < w.heap.size ∧ w.cell? ⟨b, off + i, none⟩ = some (.float .f32 (zs.getD i 0)) ∧ zs.getD i 0 < 4294967296 := by
  obtain ⟨_, _, h3, h4, h5⟩ := h
  rcases h5 with h0 | ⟨b, off, e, hb, hc⟩
  · omega
  · refine ⟨b, off, e, hb, hc i hi, ?_⟩
    rw [List.getD_eq_getElem?_getD, List.getElem?_eq_getElem (by omega)]
    exact h4 _ (List.getElem_mem _)
theorem dif_bool (xs ys : List Nat) (i : Nat) : ((canon .f32 (xs.getD i 0) : Int) == (canon .f32 (ys.getD i 0) : Int)) = !difB xs ys i := by
  unfold difB
  by_cases h : canon .f32 (xs.getD i 0) = canon .f32 (ys.getD i 0)
  · rw [h, decide_eq_true rfl]; exact beq_self_eq_true _
  · rw [decide_eq_false h]; exact beq_eq_false_iff_ne.2 (fun e => h (by omega))
theorem quiet_sameN {P : Program} {f : FuncId} {args : Array Value} {w : World} {n : Nat} {v : Value}
    (h : Calls P f args (w.drewN n) fun e w' => e = .returned v ∧ w.drewN n = w') : Calls P f args (w.drewN n) fun e w'' => e = .returned v ∧ ∃ m, w'' = w.drewN m :=
  h.mono fun _ _ ⟨he, hw⟩ => ⟨he, n, hw.symm⟩
theorem two_boxesT (w : World) (t : TypeId) (c1 c2 : Array Value) : Blk ((w.alloc (.cells c1 t)).alloc (.cells c2 t)) w.heap.size t c1 ∧ Blk ((w.alloc (.cells c1 t)).alloc (.cells c2 t)) (w.heap.size + 1) t c2 ∧ Below w.heap.size w ((w.alloc (.cells c1 t)).alloc (.cells c2 t)) := by
  refine ⟨(Blk.new w t c1).below ((Below.refl _ _).alloc (Nat.le_refl _) _), ?_, ((Below.refl w.heap.size w).alloc (Nat.le_refl _) _).alloc (by simp) _⟩
  have h := Blk.new (w.alloc (.cells c1 t)) t c2
  simpa only [World.size_alloc] using h
def RetIs (zs : List Int) (w : World) (e : Ending) (w' : World) : Prop := ∃ a cap, e = .returned (.slice a zs.length cap) ∧ OwnI w' w.heap.size a cap zs ∧ Below w.heap.size w w'
set_option maxRecDepth 20000 in
set_option maxHeartbeats 2000000 in
theorem c_l08Changed (a b : Option Addr) (ca cb : Nat) (xs ys : List Nat) (w : World) (ha : IsFloats .f32 w a xs.length ca xs) (hb : IsFloats .f32 w b ys.length cb ys) (hl : xs.length = ys.length) (h4 : xs.length ≤ 4096) :
    Calls Tryd.prog 110 #[.slice a xs.length ca, .slice b ys.length cb] w (RetIs (chgL xs ys) w) := by
  have HX := Lib.hid ha
  have HY := Lib.hid hb
  have HCL := Lib.hid (show chgL xs ys = chgU xs ys xs.length from rfl)
  rw [HCL.out]
  obtain ⟨n, hn⟩ : ∃ n, xs.length = n := ⟨_, rfl⟩
  rw [← hl] at HY ⊢
  rw [hn] at HX HY h4 ⊢
  have hn64 : (n : Int) ≤ 4096 := by omega
  obtain ⟨i0, hi, hz0, hz1, hz2⟩ := info_parts info_j64
  have JI := Lib.hid hi
  have HZ0 := Lib.hid hz0
  have HZ1 := Lib.hid hz1
  have HZ2 := Lib.hid hz2
  clear ha hb hl hn HCL hi hz0 hz1 hz2
  go_enter Tryd.func110, Tryd.ntmps110
  go_wp2_with fail
  go_loopw [5, 6] (fun s i wr => ChgRel xs ys n w s i wr) (fun _ i _ => n - (intOf i).toNat)
  case atStart => exact ⟨0, _, 0, Nat.zero_le _, rfl, rfl, ⟨World.ownsRow_made w #[] 0 (Nat.le_refl _) (by unfold maxLen; omega) rfl, fun _ h => by cases h⟩, (Below.refl _ _).alloc (Nat.le_refl _) _⟩
  case round =>
    obtain ⟨k, pa, pc, hk, rfl, rfl, ho, hb⟩ := hrel
    have HO := Lib.hid ho
    have HL := Lib.hid hb
    have hk0 : (0 : Int) ≤ (k : Int) := by omega
    have hk4 : k ≤ 4096 := by omega
    clear ho hb
    by_cases hlt : k < n
    · have hlt' : (k : Int) < (n : Int) := by omega
      obtain ⟨b1, o1, rfl, hb1, c1, l1⟩ := flt_at (HX.out.kept HL.out) hlt
      obtain ⟨b2, o2, rfl, hb2, c2, l2⟩ := flt_at (HY.out.kept HL.out) hlt
      have hs := fun W => c_l01Same (xs.getD k 0) (ys.getD k 0) l1 l2 W
      simp only [dif_bool] at hs
      have hle := chgU_le xs ys k
      cases hd : difB xs ys k with
      | false =>
        simp only [hd, Bool.not_false] at hs
        have HS := Lib.hid hs
        have HN := Lib.hid (chgU_no hd)
        clear hs hd l1 l2 hle
        go_wp2_with fail
        go_quiet ((go_at_call 135; exact quiet_sameN (HS.out _)))
        have HB2 := Lib.hid (Below.next HL.out (below_drewN (Below.refl wr.heap.size wr) nq))
        have HO2 := Lib.hid (HO.out.kept (below_drewN (Below.refl wr.heap.size wr) nq))
        generalize wr.drewN nq = w2 at HB2 HO2 ⊢
        clear c1 c2
        go_wp2_with fail
        go_roundw
        case rel => exact ⟨k + 1, pa, pc, hlt, by go_num, by rw [HN.out], by rw [HN.out]; exact HO2.out, HB2.out⟩
        case measure => simp [intOf]; omega
      | true =>
        simp only [hd, Bool.not_true] at hs
        have HS := Lib.hid hs
        have HN := Lib.hid (chgU_yes hd)
        have HW := Lib.hid (wf_natL (n := k) (by omega))
        obtain ⟨zs, hzs⟩ : ∃ zs, chgU xs ys k = zs := ⟨_, rfl⟩
        rw [hzs] at HO HN hle ⊢
        have A1 := Lib.hid (show zs.length + 1 ≤ maxLen by unfold maxLen; omega)
        have A2 := Lib.hid (show (zs.length + 1) * 8 ≤ 140737488355328 by omega)
        clear hs hd l1 l2 hle hzs
        go_wp2_with fail
        go_quiet ((go_at_call 135; exact quiet_sameN (HS.out _)))
        have HB2 := Lib.hid (Below.next HL.out (below_drewN (Below.refl wr.heap.size wr) nq))
        have HO2 := Lib.hid (HO.out.kept (below_drewN (Below.refl wr.heap.size wr) nq))
        generalize wr.drewN nq = w2 at HB2 HO2 ⊢
        have A3 := Lib.hid HB2.out.size
        clear c1 c2
        go_wp2_with (at_builtin; refine wpList_append_any _ rfl (.tmp 24) (.tmp 26) 110 rfl w.heap.size 2 i0 (.int .i64 0) 1 8 Tryd.underlying110 JI.out HZ0.out HZ1.out HZ2.out rfl Nat.one_pos (.slice pa zs.length pc) zs.length (zs.map toV) rfl (growJ_own HO2.out) (w2.heap.size + 1) (some ⟨w2.heap.size, 0, none⟩) 1 1 [.int .i64 k] rfl growJ_reads (one_i64 _) A1.out A2.out (growJ_base A3.out) ?_; intro v' w' hown hgr hat; obtain ⟨a', c', rfl⟩ := ownsRow_slice hown; have HMD := Lib.hid (growL_next HO2.out (Nat.le_refl _) HB2.out HW.out hown hgr); clear hown hgr hat)
        go_roundw
        case rel =>
          obtain ⟨t1, t2⟩ := HMD.out
          refine ⟨k + 1, a', c', hlt, by go_num, by rw [HN.out, List.length_append]; rfl, by rw [HN.out]; exact t1, t2⟩
        case measure => simp [intOf]; omega
    · obtain rfl : k = n := by omega
      go_wp2_with fail
      go_ret
      exact ⟨pa, pc, rfl, HO.out, HL.out⟩
def FmRel (ls ls' : List LayA) (n : Nat) (w : World) (i : Value) (wr : World) : Prop := ∃ k : Nat, k ≤ n ∧ i = .int .i64 k ∧ (ls.take k).map fmA = (ls'.take k).map fmA ∧ Below w.heap.size w wr
set_option maxRecDepth 20000 in
set_option maxHeartbeats 8000000 in
theorem c_l08Fit (G G' : Nat) (q q' : TrsA) (w : World) (h : TrsAt w q) (h' : TrsAt w q') (K : Blk w G 51 q.cells) (K' : Blk w G' 51 q'.cells) :
    Calls Tryd.prog 66 #[.pointer (some ⟨G, 0, none⟩), .pointer (some ⟨G', 0, none⟩)] w fun e w' => e = .returned (.bool (fitTB q q')) ∧ Below w.heap.size w w' := by
  have HC := Lib.hid (fun W (hb : Below w.heap.size w W) => c_l08Is G q W (h.kept hb) (K.below hb))
  have HC' := Lib.hid (fun W (hb : Below w.heap.size w W) => c_l08Is G' q' W (h'.kept hb) (K'.below hb))
  obtain ⟨s, hs⟩ : ∃ s, fitTB q q' = s := ⟨_, rfl⟩
  rw [hs]
  unfold fitTB at hs
  obtain ⟨u, hu⟩ : ∃ u, stbB q = u := ⟨_, rfl⟩
  obtain ⟨u', hu'⟩ : ∃ u, stbB q' = u := ⟨_, rfl⟩
  rw [hu, hu'] at hs
  rw [hu] at HC
  rw [hu'] at HC'
  have HN6 := Lib.hid (show u = true → q.ls.length ≤ 6 from fun e => (stb_bounds (hu.trans e)).1)
  obtain ⟨g, c, ls, hh, d, ss, st, sd, sc⟩ := q
  obtain ⟨g', c', ls', hh', d', ss', st', sd', sc'⟩ := q'
  simp only [TrsAt] at h h'
  obtain ⟨a1, a2, a3⟩ := h
  obtain ⟨b1, b2, b3⟩ := h'
  unfold TrsA.cells at K K'
  simp only [TrsA.ps] at K K' hs HN6
  have HV := (show (u && (u' && (formsB (ls.map LayA.p) (ls'.map LayA.p) && decide (ss.length = ss'.length)))) = s from hs)
  rw [formsB_A] at HV
  obtain ⟨n, hn⟩ : ∃ n, ls.length = n := ⟨_, rfl⟩
  obtain ⟨n', hn'⟩ : ∃ n, ls'.length = n := ⟨_, rfl⟩
  obtain ⟨m, hm⟩ : ∃ n, ss.length = n := ⟨_, rfl⟩
  obtain ⟨m', hm'⟩ : ∃ n, ss'.length = n := ⟨_, rfl⟩
  rw [hn] at K a1 HN6
  rw [hn'] at K' b1
  rw [hm] at K a2 HV
  rw [hm'] at K' b2 HV
  have n1 : n ≤ 9223372036854775807 := by have h1 := a1.2.1; have h2 := a1.2.2.1; unfold maxLen at h2; omega
  have n2 : n' ≤ 9223372036854775807 := by have h1 := b1.2.1; have h2 := b1.2.2.1; unfold maxLen at h2; omega
  have n3 : m ≤ 9223372036854775807 := by have h1 := a2.2.1; have h2 := a2.2.2.1; unfold maxLen at h2; omega
  have n4 : m' ≤ 9223372036854775807 := by have h1 := b2.2.1; have h2 := b2.2.2.1; unfold maxLen at h2; omega
  have HN := Lib.hid hn
  have HN' := Lib.hid hn'
  have A1 := Lib.hid a1
  have B1 := Lib.hid b1
  have KK := Lib.hid K
  have KK' := Lib.hid K'
  obtain ⟨p0, p1, p2, p3, p4, p5⟩ := tbt5 KK.out
  obtain ⟨q0, q1, q2, q3, q4, q5⟩ := tbt5 KK'.out
  have e0 := cell_regrown p0
  have e1 := cell_regrown p1
  have f0 := cell_regrown q0
  have f1 := cell_regrown q1
  clear hn hn' hm hm' a1 a2 a3 b1 b2 b3 K K' hs hu hu' p0 p1 p2 p3 p4 p5 q0 q1 q2 q3 q4 q5
  cases u with
  | false =>
    have HF := Lib.hid (show false = s from HV)
    clear HV
    go_enter Tryd.func66, Tryd.ntmps66
    go_wp2_with fail
    refine wp_region_quiet_below (by kernel_rfl) (by kernel_rfl) ?_
    repeat (go_big_quiet_step ((first | (go_at_call_of 55 (Value.pointer (some ⟨G, 0, none⟩)); exact Calls.regrown_of (HC.out _ (below_regrown w _ _))) | (go_at_call 55; exact Calls.regrown_of (HC'.out _ (below_regrown w _ _))))))
    refine wpQuiet_nil ?_
    intro _ hw'
    obtain ⟨⟨dq, osq⟩, hw''⟩ := hw'
    subst hw''
    have BB := Lib.hid (below_regrown w dq osq)
    clear e0 e1 f0 f1
    generalize grow (redrawn w dq) osq = w1 at BB ⊢
    go_wp2_with fail
    go_ret
    exact ⟨ret_b HF.out, BB.out⟩
  | true =>
  cases u' with
  | false =>
    have HF := Lib.hid (show false = s from HV)
    clear HV
    go_enter Tryd.func66, Tryd.ntmps66
    go_wp2_with fail
    refine wp_region_quiet_below (by kernel_rfl) (by kernel_rfl) ?_
    repeat (go_big_quiet_step ((first | (go_at_call_of 55 (Value.pointer (some ⟨G, 0, none⟩)); exact Calls.regrown_of (HC.out _ (below_regrown w _ _))) | (go_at_call 55; exact Calls.regrown_of (HC'.out _ (below_regrown w _ _))))))
    refine wpQuiet_nil ?_
    intro _ hw'
    obtain ⟨⟨dq, osq⟩, hw''⟩ := hw'
    subst hw''
    have BB := Lib.hid (below_regrown w dq osq)
    clear e0 e1 f0 f1
    generalize grow (redrawn w dq) osq = w1 at BB ⊢
    go_wp2_with fail
    go_ret
    exact ⟨ret_b HF.out, BB.out⟩
  | true =>
  have h6 := HN6.out rfl
  have h6' : (n : Int) ≤ 6 := by omega
  by_cases x1 : n = n'
  case neg =>
    have HF := Lib.hid (show false = s by rw [← HV, show decide (ls.map fmA = ls'.map fmA) = false from decide_eq_false (fun e => x1 (by rw [← HN.out, ← HN'.out]; simpa using congrArg List.length e))]; simp)
    have hne : ¬ (n : Int) = (n' : Int) := by omega
    have dn : ((n : Int) != (n' : Int)) = true := bne_iff_ne.2 hne
    clear HV x1 hne h6
    go_enter Tryd.func66, Tryd.ntmps66
    go_wp2_with fail
    refine wp_region_quiet_below (by kernel_rfl) (by kernel_rfl) ?_
    repeat (go_big_quiet_step ((first | (go_at_call_of 55 (Value.pointer (some ⟨G, 0, none⟩)); exact Calls.regrown_of (HC.out _ (below_regrown w _ _))) | (go_at_call 55; exact Calls.regrown_of (HC'.out _ (below_regrown w _ _))))))
    refine wpQuiet_nil ?_
    intro _ hw'
    obtain ⟨⟨dq, osq⟩, hw''⟩ := hw'
    subst hw''
    have BB := Lib.hid (below_regrown w dq osq)
    clear e0 e1 f0 f1
    generalize grow (redrawn w dq) osq = w1 at BB ⊢
    go_wp2_with fail
    go_ret
    exact ⟨ret_b HF.out, BB.out⟩
  case pos =>
  by_cases x2 : m = m'
  case neg =>
    have HF := Lib.hid (show false = s by rw [← HV, decide_eq_false x2]; simp)
    have hne : ¬ (m : Int) = (m' : Int) := by omega
    have dn : ((m : Int) != (m' : Int)) = true := bne_iff_ne.2 hne
    subst x1
    clear HV x2 hne h6
    go_enter Tryd.func66, Tryd.ntmps66
    go_wp2_with fail
    refine wp_region_quiet_below (by kernel_rfl) (by kernel_rfl) ?_
    repeat (go_big_quiet_step ((first | (go_at_call_of 55 (Value.pointer (some ⟨G, 0, none⟩)); exact Calls.regrown_of (HC.out _ (below_regrown w _ _))) | (go_at_call 55; exact Calls.regrown_of (HC'.out _ (below_regrown w _ _))))))
    refine wpQuiet_nil ?_
    intro _ hw'
    obtain ⟨⟨dq, osq⟩, hw''⟩ := hw'
    subst hw''
    have BB := Lib.hid (below_regrown w dq osq)
    clear e0 e1 f0 f1
    generalize grow (redrawn w dq) osq = w1 at BB ⊢
    go_wp2_with fail
    go_ret
    exact ⟨ret_b HF.out, BB.out⟩
  case pos =>
    have HV2 := Lib.hid (show decide (ls.map fmA = ls'.map fmA) = s by rw [← HV, decide_eq_true x2]; simp)
    subst x1 x2
    clear HV h6
    go_enter Tryd.func66, Tryd.ntmps66
    go_wp2_with fail
    refine wp_region_quiet_below (by kernel_rfl) (by kernel_rfl) ?_
    repeat (go_big_quiet_step ((first | (go_at_call_of 55 (Value.pointer (some ⟨G, 0, none⟩)); exact Calls.regrown_of (HC.out _ (below_regrown w _ _))) | (go_at_call 55; exact Calls.regrown_of (HC'.out _ (below_regrown w _ _))))))
    refine wpQuiet_nil ?_
    intro _ hw'
    obtain ⟨⟨dq, osq⟩, hw''⟩ := hw'
    subst hw''
    have BB := Lib.hid (below_regrown w dq osq)
    clear e0 e1 f0 f1
    generalize grow (redrawn w dq) osq = w1 at BB ⊢
    go_wp2_with fail
    go_loopw [5] (fun iv wr => FmRel ls ls' n w iv wr) (fun iv _ => n - (intOf iv).toNat)
    case atStart => exact ⟨0, Nat.zero_le _, rfl, rfl, BB.out⟩
    case round =>
      obtain ⟨k, hk, rfl, he, hb⟩ := hrel
      have HE := Lib.hid he
      have HB := Lib.hid hb
      obtain ⟨p0, p1, p2, p3, p4, p5⟩ := tbt5 (KK.out.below hb)
      obtain ⟨q0, q1, q2, q3, q4, q5⟩ := tbt5 (KK'.out.below hb)
      have hk0 : (0 : Int) ≤ (k : Int) := by omega
      clear he hb BB
      by_cases hlt : k < n
      · obtain ⟨lb, off, k1, i1, o1, ws, bs, a0, c0, a1, c1, rfl, hbk, hx, r0, r1, r2, r3, r4, g0, g1⟩ := (A1.out.kept HB.out).one hlt
        obtain ⟨lb', off', k2, i2, o2, ws', bs', a0', c0', a1', c1', rfl, hbk', hx', s0, s1, s2, s3, s4, g0', g1'⟩ := (B1.out.kept HB.out).one hlt
        have HX := Lib.hid hx
        have HX' := Lib.hid hx'
        have hlt' : (k : Int) < (n : Int) := by omega
        have al := (Below.refl wr.heap.size wr).alloc (Nat.le_refl _) (.cells #[.int .i64 k1, .int .i64 i1, .int .i64 o1, .slice a0 ws.length c0, .slice a1 bs.length c1] 105)
        have AL := Lib.hid al
        have BL := Lib.hid (Below.next HB.out al)
        have KA := Lib.hid (Blk.new wr 105 #[.int .i64 k1, .int .i64 i1, .int .i64 o1, .slice a0 ws.length c0, .slice a1 bs.length c1])
        have KQ := Lib.hid (KK'.out.below BL.out)
        have t0 := (al.cell (p := ⟨lb', off' + k * 5, none⟩) hbk').trans s0
        have t1 := (al.cell (p := ⟨lb', off' + k * 5 + 1, none⟩) hbk').trans s1
        have t2 := (al.cell (p := ⟨lb', off' + k * 5 + 2, none⟩) hbk').trans s2
        have t3 := (al.cell (p := ⟨lb', off' + k * 5 + 3, none⟩) hbk').trans s3
        have t4 := (al.cell (p := ⟨lb', off' + k * 5 + 4, none⟩) hbk').trans s4
        clear hx hx' g0 g1 g0' g1' hbk hbk' s0 s1 s2 s3 s4 al
        by_cases y1 : k1 = k2
        case neg =>
          have HF := Lib.hid (show false = s by rw [← HV2.out, decide_eq_false (map_neF (f := fmA) HX.out HX'.out (by simp [fmA, fmP, y1]))])
          have dn : (k1 != k2) = true := bne_iff_ne.2 y1
          clear y1
          go_wp2_with fail
          have BL2 := Lib.hid (fun cs => Below.next BL.out ((Below.refl _ _).alloc (Nat.le_refl _) (.cells cs 105)))
          go_ret
          exact ⟨ret_b HF.out, BL2.out _⟩
        case pos =>
        by_cases y2 : i1 = i2
        case neg =>
          have HF := Lib.hid (show false = s by rw [← HV2.out, decide_eq_false (map_neF (f := fmA) HX.out HX'.out (by simp [fmA, fmP, y2]))])
          have dn : (i1 != i2) = true := bne_iff_ne.2 y2
          subst y1
          clear y2
          go_wp2_with fail
          have BL2 := Lib.hid (fun cs => Below.next BL.out ((Below.refl _ _).alloc (Nat.le_refl _) (.cells cs 105)))
          go_ret
          exact ⟨ret_b HF.out, BL2.out _⟩
        case pos =>
        by_cases y3 : o1 = o2
        case neg =>
          have HF := Lib.hid (show false = s by rw [← HV2.out, decide_eq_false (map_neF (f := fmA) HX.out HX'.out (by simp [fmA, fmP, y3]))])
          have dn : (o1 != o2) = true := bne_iff_ne.2 y3
          subst y1 y2
          clear y3
          go_wp2_with fail
          have BL2 := Lib.hid (fun cs => Below.next BL.out ((Below.refl _ _).alloc (Nat.le_refl _) (.cells cs 105)))
          go_ret
          exact ⟨ret_b HF.out, BL2.out _⟩
        case pos =>
          have HNX := Lib.hid (map_takeF (f := fmA) HE.out HX.out HX'.out (by simp [fmA, fmP, y1, y2, y3]))
          subst y1 y2 y3
          go_wp2_with fail
          have BL2 := Lib.hid (fun cs => Below.next BL.out ((Below.refl _ _).alloc (Nat.le_refl _) (.cells cs 105)))
          go_roundw
          case rel => exact ⟨k + 1, hlt, by go_num, HNX.out, BL2.out _⟩
          case measure => simp [intOf]; omega
      · obtain rfl : k = n := by omega
        have HT := Lib.hid (show true = s by
          have h1 := HE.out
          rw [List.take_of_length_le (by rw [HN.out]; exact Nat.le_refl _), List.take_of_length_le (by rw [HN'.out]; exact Nat.le_refl _)] at h1
          rw [← HV2.out, decide_eq_true h1])
        go_wp2_with fail
        go_ret
        exact ⟨ret_b HT.out, HB.out⟩
end Go.Proofs.YtpobdigmjfapbaaDoor
