/-
  Losses by rules, their gradients, and the model's lists for them. Conditions: the numbers can be read.
-/
import Derived.Test.YtaklcmibpnpffaaOp5
import Derived.Test.YtaklcmibpnpffaaDotIn
import Derived.Deep.RegionLaw
import Derived.BigRegion
namespace Go.Proofs.Ytaklcmibpnpffaa
open Go.RowKit Go.Deep Go.WideShapes Go.ChangeShapes
set_option linter.unusedVariables false

def okBoth (n m : Nat) : Bool := decide (1 ≤ n) && (decide (n ≤ 256) && decide (n = m))
theorem okBoth_yes {n m : Nat} (h : okBoth n m = true) : 1 ≤ n ∧ n ≤ 256 ∧ n = m := by simpa [okBoth] using h
theorem okBoth_no {n m : Nat} (h : okBoth n m = false) : n = 0 ∨ 257 ≤ n ∨ n ≠ m := by
  rcases Nat.eq_zero_or_pos n with h0 | h0
  · exact .inl h0
  · by_cases h1 : n ≤ 256
    · by_cases h2 : n = m
      · have : okBoth n m = true := by simp [okBoth, h2]; omega
        rw [this] at h; cases h
      · exact .inr (.inr h2)
    · exact .inr (.inl (by omega))
def fN (n : Nat) : Nat := floatOfInt .f32 (n : Int)
theorem canon_fN (n : Nat) : canon .f32 (floatOfInt .f32 (n : Int)) = fN n := canon_num (floatOfInt_num _)
def gapOf (ys ts : List Nat) (i : Nat) : Nat := cop .sub .f32 (canon .f32 (ys.getD i 0)) (canon .f32 (ts.getD i 0))
theorem gap_canon (ys ts : List Nat) (i : Nat) : canon .f32 (gapOf ys ts i) = gapOf ys ts i := cop_canon _ _ _ _
def vLoss (P S : Nat → Nat) (ys ts : List Nat) : Nat × Bool × List Nat :=
  if okBoth ys.length ts.length = true then (cop .quo .f32 (csum ((List.range ys.length).map fun i => P (gapOf ys ts i))) (fN ys.length), true, (List.range ys.length).map fun i => cop .quo .f32 (S (gapOf ys ts i)) (fN ys.length)) else (0, false, [])
theorem vLoss_len (P S : Nat → Nat) (ys ts : List Nat) : (vLoss P S ys ts).2.2.length ≤ 1048576 := by
  unfold vLoss
  split
  · rename_i h; have := okBoth_yes h; simp; omega
  · simp
theorem vLoss_no {P S : Nat → Nat} {ys ts : List Nat} (h : okBoth ys.length ts.length = false) : vLoss P S ys ts = (0, false, []) := by unfold vLoss; rw [if_neg (by rw [h]; decide)]
theorem vLoss_yes {P S : Nat → Nat} {ys ts : List Nat} (h : okBoth ys.length ts.length = true) : vLoss P S ys ts = (cop .quo .f32 (csum ((List.range ys.length).map fun i => P (gapOf ys ts i))) (fN ys.length), true, (List.range ys.length).map fun i => cop .quo .f32 (S (gapOf ys ts i)) (fN ys.length)) := by unfold vLoss; rw [if_pos h]
theorem csum_canon (zs : List Nat) : csum (zs.map (canon .f32)) = csum zs := by
  have h : ∀ (l : List Nat) (s : Nat), (l.map (canon .f32)).foldl (fun s z => cop .add .f32 s (canon .f32 z)) s = l.foldl (fun s z => cop .add .f32 s (canon .f32 z)) s := by
    intro l
    induction l with
    | nil => intro s; rfl
    | cons x l ih => intro s; simp only [List.map_cons, List.foldl_cons, canon_canon]; exact ih _
  exact h _ _
theorem csum_of {ps : List Nat} {f : Nat → Nat} {n : Nat} (h : ps.map (canon .f32) = (List.range n).map f) : csum ps = csum ((List.range n).map f) := by rw [← h, csum_canon]

theorem c_meanOf (a : Option Addr) (n cap : Nat) (zs : List Nat) (w : World) (h : IsFloats .f32 w a n cap zs) : Calls Try.prog 101 #[.slice a n cap] w (RetF .f32 (cop .quo .f32 (csum zs) (fN n)) w) := by
  have HF := Lib.hid h
  clear h
  go_enter Try.func101, Try.ntmps101
  go_wp2_with (go_at_call 112; refine (c_sumInOrder _ _ _ zs _ HF.out).mono ?_; rintro e w' ⟨r, m, hr, hl, rfl, rfl⟩; have HR := Lib.hid hr; clear hr hl)
  go_ret
  exact ⟨_, _, by rw [canon_fval, HR.out, canon_fN], fval_lt .quo .f32 _ _ _, rfl, rfl⟩
/-- a rule's answer -/
def RetP (p s : Nat) (w : World) (e : Ending) (w' : World) : Prop := ∃ a b, e = .returned (.tuple #[.float .f32 a, .float .f32 b]) ∧ canon .f32 a = p ∧ canon .f32 b = s ∧ a < 2 ^ 32 ∧ b < 2 ^ 32 ∧ Below w.heap.size w w'
theorem far_set {w : World} {B g k v : Nat} {a : Option Addr} {c : Nat} {ys : List Nat} (h : OwnF w B a c ys) (hne : ∀ j, blk a = some j → j ≠ g) : OwnF (w.setCell ⟨g, k, none⟩ (.float .f32 v)) B a c ys :=
  h.apart (b := some ⟨g, 0, none⟩) ⟨rfl, rfl, rfl, by simp, fun j _ hj => Below.heap_setCell _ _ _ j (fun e => hj (by simp [blk, e]))⟩ (fun j hj e => hne j hj (by simpa [blk] using e.symm))
/-- the program's two lists, of which k numbers are made -/
def Two (f1 f2 : Nat → Nat) (n g1 g2 : Nat) (w : World) (i : Value) (wr : World) : Prop :=
  ∃ (k : Nat) (ps qs : List Nat), k ≤ n ∧ i = .int .i64 k ∧ ps.length = k ∧ qs.length = k ∧ OwnF wr w.heap.size (some ⟨g1, 0, none⟩) n (ps ++ (List.replicate n 0).drop k) ∧ OwnF wr w.heap.size (some ⟨g2, 0, none⟩) n (qs ++ (List.replicate n 0).drop k) ∧
    ps.map (canon .f32) = (List.range k).map f1 ∧ qs.map (canon .f32) = (List.range k).map f2 ∧ Below w.heap.size w wr
theorem made_row {w wr : World} {B g n : Nat} (h : wr.ownsRow B 22 1 (.slice (some ⟨g, 0, none⟩) n n) n (List.replicate n (Value.float .f32 0))) : OwnF wr B (some ⟨g, 0, none⟩) n (List.replicate n 0) :=
  ⟨by simpa using h, fun y hy => by rw [(List.mem_replicate.1 hy).2]; decide⟩
theorem two_next {f1 f2 : Nat → Nat} {n g1 g2 k u v : Nat} {w wr w2 : World} {ps qs : List Nat} (hk : k < n) (hg : g1 ≠ g2) (hp : ps.length = k) (hq : qs.length = k) (h1 : OwnF wr w.heap.size (some ⟨g1, 0, none⟩) n (ps ++ (List.replicate n 0).drop k)) (h2 : OwnF wr w.heap.size (some ⟨g2, 0, none⟩) n (qs ++ (List.replicate n 0).drop k))
    (e1 : ps.map (canon .f32) = (List.range k).map f1) (e2 : qs.map (canon .f32) = (List.range k).map f2) (hl : Below w.heap.size w wr) (hb : Below wr.heap.size wr w2) (hu : u < 2 ^ 32) (cu : canon .f32 u = f1 k) (hv : v < 2 ^ 32) (cv : canon .f32 v = f2 k) :
    Two f1 f2 n g1 g2 w (.int .i64 ((k : Int) + 1)) ((w2.setCell ⟨g1, k, none⟩ (.float .f32 u)).setCell ⟨g2, k, none⟩ (.float .f32 v)) := by
  have hr : (List.replicate n 0).length = n := List.length_replicate
  obtain ⟨k1, ps', hk1, hi1, hp1, o1, q1, b1⟩ := upd_next (zs := List.replicate n 0) (by rw [hr]; exact hk) hp h1 e1 hl hb hl.size hu cu
  have hb3 : Below wr.heap.size wr (w2.setCell ⟨g1, k, none⟩ (.float .f32 u)) ∨ True := .inr trivial
  have h2' := far_set (g := g1) (k := k) (v := u) (h2.kept hb) (fun j hj => by simp only [blk, Option.map_some, Option.some.injEq] at hj; omega)
  have hk2 : k1 = k + 1 := by simp only [Value.int.injEq, true_and] at hi1; omega
  subst hk2
  have hl2 := (h1.lt g1 rfl).1
  obtain ⟨k2, qs', hk2, hi2, hp2, o2, q2, b2⟩ := upd_next (f := f2) (zs := List.replicate n 0) (w := w) (by rw [hr]; exact hk) hq h2' e2 ((hl.trans (hb.mono hl.size)).setCell hl2 _) (Below.refl _ _) (by have := hl.size; have := hb.size; simp; omega) hv cv
  have hk3 : k2 = k + 1 := by simp only [Value.int.injEq, true_and] at hi2; omega
  subst hk3
  have o1' := far_set (g := g2) (k := k) (v := v) o1 (fun j hj => by simp only [blk, Option.map_some, Option.some.injEq] at hj; omega)
  exact ⟨k + 1, ps', qs', hk, by go_num, hp1, hp2, o1', o2, q1, q2, b2⟩
set_option maxRecDepth 20000 in
set_option maxHeartbeats 4000000 in
theorem c_lossBy (F : FuncId) (caps : Array Value) (P S : Nat → Nat) (a b : Option Addr) (ca cb : Nat) (ys ts : List Nat) (w : World) (ha : IsFloats .f32 w a ys.length ca ys) (hb : IsFloats .f32 w b ts.length cb ts)
    (hE : ∀ (xs : Array Value) (wr : World), (callFunc F xs).run Try.prog wr = .ok (.enter F xs) wr)
    (hF : ∀ (x : Nat) (wr : World), x < 4294967296 → Below w.heap.size w wr → Calls Try.prog F (#[.float .f32 x] ++ caps) wr (RetP (P (canon .f32 x)) (S (canon .f32 x)) wr)) :
    Calls Try.prog 73 #[.func (.func F) #[] caps, .slice a ys.length ca, .slice b ts.length cb] w (RetQ (vLoss P S ys ts).1 (vLoss P S ys ts).2.1 (vLoss P S ys ts).2.2 w) := by
  have hm1 : ys.length ≤ 9223372036854775807 := by have h1 := ha.1; have h2 := ha.2.1; unfold maxLen at h2; omega
  have hm2 : ts.length ≤ 9223372036854775807 := by have h1 := hb.1; have h2 := hb.2.1; unfold maxLen at h2; omega
  have HA := Lib.hid ha
  have HB := Lib.hid hb
  have HC := Lib.hid hF
  clear ha hb hF
  cases hok : okBoth ys.length ts.length with
  | false =>
    have HX := Lib.hid (vLoss_no (P := P) (S := S) hok)
    rw [HX.out]
    have hno := okBoth_no hok
    clear hok HX
    by_cases h0 : ys.length = 0
    · have h0' : (ys.length : Int) ≤ 0 := by omega
      clear hno h0
      go_enter Try.func73, Try.ntmps73
      go_wp2_with fail
      refine bodyPost_ret (v := .tuple #[.float .f32 0, .slice none 0 0, .bool false]) (by simp [results, Try.results73]) rfl ?_
      exact ⟨0, none, 0, [], by decide +kernel, rfl, nil_own _ _, rfl, Below.refl _ _⟩
    · have h1 : (1 : Int) ≤ (ys.length : Int) := by omega
      by_cases h2 : 257 ≤ ys.length
      · have h2' : (257 : Int) ≤ (ys.length : Int) := by omega
        clear hno h0 h2
        go_enter Try.func73, Try.ntmps73
        go_wp2_with fail
        refine bodyPost_ret (v := .tuple #[.float .f32 0, .slice none 0 0, .bool false]) (by simp [results, Try.results73]) rfl ?_
        exact ⟨0, none, 0, [], by decide +kernel, rfl, nil_own _ _, rfl, Below.refl _ _⟩
      · have h2' : (ys.length : Int) ≤ 256 := by omega
        have h3 : ((ys.length : Int) != (ts.length : Int)) = true := bne_iff_ne.2 (by omega)
        clear hno h0 h2
        go_enter Try.func73, Try.ntmps73
        go_wp2_with fail
        refine bodyPost_ret (v := .tuple #[.float .f32 0, .slice none 0 0, .bool false]) (by simp [results, Try.results73]) rfl ?_
        exact ⟨0, none, 0, [], by decide +kernel, rfl, nil_own _ _, rfl, Below.refl _ _⟩
  | true =>
    have HX := Lib.hid (vLoss_yes (P := P) (S := S) hok)
    rw [HX.out]
    obtain ⟨y1, y2, y3⟩ := okBoth_yes hok
    rw [← y3] at HB ⊢
    obtain ⟨n, hn⟩ : ∃ n, ys.length = n := ⟨_, rfl⟩
    rw [hn] at HA HB y1 y2 hm1 ⊢
    have hl1 : (1 : Int) ≤ (n : Int) := by omega
    have hl2 : (n : Int) ≤ 256 := by omega
    obtain ⟨i0, hi, hz0, hz1, hz2⟩ := info_parts info_f32
    have HI := Lib.hid hi
    have HZ0 := Lib.hid hz0
    have HZ1 := Lib.hid hz1
    have HZ2 := Lib.hid hz2
    clear hok hi hz0 hz1 hz2 hn y3 hm2 HX
    go_enter Try.func73, Try.ntmps73
    go_wp2_with (at_make; refine wpList_make_full _ rfl _ _ 30 rfl w.heap.size 22 i0 (.float .f32 0) 1 Try.underlying30 HI.out HZ0.out HZ1.out _ _ _ _ n rfl rfl rfl rfl ?c1 ?c2 ?c3 ?_)
    case c1 => rw [HZ2.out]; omega
    case c2 => unfold maxLen; omega
    case c3 => exact Nat.le_refl _
    intro w1 hown hgrow
    have hb1 : Below w.heap.size w w1 := (Below.refl _ _).grown hgrow (Nat.le_refl _) (fun k h => by cases h)
    rw [toList_madeCells_one] at hown
    have HO1 := Lib.hid (made_row (w := w) hown)
    have HB1 := Lib.hid hb1
    clear hown hb1 hgrow
    go_wp2_with (at_make; refine wpList_make_full _ rfl _ _ 30 rfl w.heap.size 22 i0 (.float .f32 0) 1 Try.underlying30 HI.out HZ0.out HZ1.out _ _ _ _ n rfl rfl rfl rfl ?d1 ?d2 ?d3 ?_)
    case d1 => rw [HZ2.out]; omega
    case d2 => unfold maxLen; omega
    case d3 => exact HB1.out.size
    intro w2 hown hgrow
    have hb2 : Below w1.heap.size w1 w2 := (Below.refl _ _).grown hgrow (Nat.le_refl _) (fun k h => by cases h)
    rw [toList_madeCells_one] at hown
    have HO2 := Lib.hid (made_row (w := w) hown)
    have HO1' := Lib.hid (HO1.out.kept hb2)
    have HB2 := Lib.hid (Below.next HB1.out hb2)
    have HNE := Lib.hid (Nat.ne_of_lt (HO1.out.lt _ rfl).2)
    obtain ⟨g2, hg2⟩ : ∃ g, w1.heap.size = g := ⟨_, rfl⟩
    rw [hg2] at HO2 HNE ⊢
    clear hown hb2 hgrow hg2 HO1 HB1
    go_wp2_with fail
    go_loopw [38] (fun i wr => Two (fun i => P (gapOf ys ts i)) (fun i => cop .quo .f32 (S (gapOf ys ts i)) (fN n)) n w.heap.size g2 w i wr) (fun i _ => n - (intOf i).toNat)
    case atStart => exact ⟨0, [], [], Nat.zero_le _, rfl, rfl, rfl, HO1'.out, HO2.out, rfl, rfl, HB2.out⟩
    case round =>
      obtain ⟨k, ps, qs, hk, rfl, hp, hq, h1, h2, e1, e2, hl⟩ := hrel
      have HP := Lib.hid hp
      have HQ := Lib.hid hq
      have H1 := Lib.hid h1
      have H2 := Lib.hid h2
      have E1 := Lib.hid e1
      have E2 := Lib.hid e2
      have HL := Lib.hid hl
      have hk0 : (0 : Int) ≤ (k : Int) := by omega
      clear hp hq h1 h2 e1 e2 hl HO1' HO2 HB2
      by_cases hlt : k < n
      · have hlt' : (k : Int) < (n : Int) := by omega
        rcases HA.out.2.2.2.2 with h' | ⟨ab, off, rfl, hab, hcell⟩
        · omega
        rcases HB.out.2.2.2.2 with h' | ⟨ab2, off2, rfl, hab2, hcell2⟩
        · omega
        have hx : wr.cell? ⟨ab, off + k, none⟩ = some (.float .f32 (ys.getD k 0)) := (HL.out.cell (p := ⟨ab, off + k, none⟩) hab).trans (hcell k hlt)
        have hx2 : wr.cell? ⟨ab2, off2 + k, none⟩ = some (.float .f32 (ts.getD k 0)) := (HL.out.cell (p := ⟨ab2, off2 + k, none⟩) hab2).trans (hcell2 k hlt)
        have HG := Lib.hid (show ∀ x y w1, ys.getD k 0 = x → ts.getD k 0 = y → canon .f32 (fval .sub .f32 x y w1) = gapOf ys ts k by intro x y w1 h1 h2; rw [canon_fval, ← h1, ← h2]; rfl)
        obtain ⟨x, hxx⟩ : ∃ x, ys.getD k 0 = x := ⟨_, rfl⟩
        obtain ⟨y, hyy⟩ : ∃ x, ts.getD k 0 = x := ⟨_, rfl⟩
        rw [hxx] at hx
        rw [hyy] at hx2
        have HG2 := Lib.hid (fun w1 => HG.out x y w1 hxx hyy)
        clear hcell hcell2 hxx hyy HG
        go_wp2_with fail
        refine (HC.out _ _ (fval_lt .sub .f32 _ _ _) (below_drewN HL.out _)).mono ?_
        rintro e w3 ⟨u, v, rfl, hu, hv, hul, hvl, hb⟩
        have HU := Lib.hid (hu.trans (congrArg P (HG2.out _)))
        have HV := Lib.hid (hv.trans (congrArg S (HG2.out _)))
        have HUL := Lib.hid hul
        have HVL := Lib.hid hvl
        have HBB := Lib.hid (show Below wr.heap.size wr w3 from Below.next (below_drewN (Below.refl _ _) _) hb)
        clear hu hv hul hvl hb
        have hr : (List.replicate n 0).length = n := List.length_replicate
        obtain ⟨c1, f1⟩ := own_cell (k := k) (H1.out.kept HBB.out) (by rw [upd_length (by rw [hr]; omega) HP.out, hr]; omega)
        obtain ⟨c2, f2⟩ := own_cell (k := k) (H2.out.kept HBB.out) (by rw [upd_length (by rw [hr]; omega) HQ.out, hr]; omega)
        have hne1 := HNE.out
        have hne2 := Ne.symm hne1
        clear hr
        go_wp2_with fail
        go_roundw
        case rel => exact two_next hlt HNE.out HP.out HQ.out H1.out H2.out E1.out E2.out HL.out (Below.next HBB.out (below_drewN (Below.refl _ _) _)) HUL.out HU.out (fval_lt .quo .f32 _ _ _) (by rw [canon_fval, HV.out, canon_fN])
        case measure => simp [intOf]; omega
      · obtain rfl : k = n := by omega
        have hr : (List.replicate k 0).length = k := List.length_replicate
        have HP1 := Lib.hid (show OwnF wr w.heap.size (some ⟨w.heap.size, 0, none⟩) k ps by have h := H1.out; rw [List.drop_of_length_le (Nat.le_of_eq hr)] at h; simpa using h)
        have HP2 := Lib.hid (show OwnF wr w.heap.size (some ⟨g2, 0, none⟩) k qs by have h := H2.out; rw [List.drop_of_length_le (Nat.le_of_eq hr)] at h; simpa using h)
        have HF1 := Lib.hid (show IsFloats .f32 wr (some ⟨w.heap.size, 0, none⟩) k k ps by have h := HP1.out.isFloats; rw [HP.out] at h; exact h)
        clear hr
        go_wp2_with fail
        refine (c_meanOf _ _ _ ps _ HF1.out).mono ?_
        rintro e w3 ⟨r, m, hr, hr2, rfl, rfl⟩
        have HR := Lib.hid (show canon .f32 r = cop .quo .f32 (csum ((List.range k).map fun i => P (gapOf ys ts i))) (fN k) by rw [hr, csum_of E1.out])
        clear hr hr2
        go_wp2_with fail
        refine bodyPost_ret (v := .tuple #[.float .f32 r, .slice (some ⟨g2, 0, none⟩) k k, .bool true]) (by simp [results, Try.results73]) rfl ?_
        exact ⟨r, _, k, qs, HR.out, by rw [HQ.out], HP2.out.drewN _, E2.out, below_drewN HL.out _⟩
theorem canon_getD {ds : List Nat} {f : Nat → Nat} {n k : Nat} (h : ds.map (canon .f32) = (List.range n).map f) (hk : k < n) : canon .f32 (ds.getD k 0) = f k := by
  have hl : ds.length = n := by have := congrArg List.length h; simpa using this
  have h2 := congrArg (fun l => l[k]?) h
  simp only [List.getElem?_map, List.getElem?_range hk, Option.map_some] at h2
  rw [List.getElem?_eq_getElem (show k < ds.length by omega), Option.map_some, Option.some.injEq] at h2
  simpa [List.getD, show k < ds.length by omega] using h2
set_option maxHeartbeats 400000 in
theorem c_l05Both (a b : Option Addr) (n m ca cb : Nat) (w : World) (hn : n ≤ 9223372036854775807) (hm : m ≤ 9223372036854775807) : Calls Try.prog 71 #[.slice a n ca, .slice b m cb] w fun e w' => e = .returned (.bool (okBoth n m)) ∧ w = w' := by
  by_cases h1 : 1 ≤ n
  · by_cases h2 : n ≤ 256
    · have H2 := Lib.hid (show decide (n ≤ 256) = true by simp [h2])
      have h1' : (1 : Int) ≤ (n : Int) := by omega
      have HB := Lib.hid (show ((n : Int) == (m : Int)) = okBoth n m by simp only [okBoth, h1, h2, decide_true, Bool.true_and]; rw [Bool.eq_iff_iff]; simp; exact ⟨fun h => by omega, fun h => by omega⟩)
      go_enter Try.func71, Try.ntmps71
      go_wp2_with (go_at_call 58; refine (c_l01Few _ _ _ _).mono ?_; rintro e w' ⟨rfl, rfl⟩; rw [H2.out])
      go_ret
      exact ⟨ret_b HB.out, rfl⟩
    · have H2 := Lib.hid (show decide (n ≤ 256) = false by simp [h2])
      have h1' : (1 : Int) ≤ (n : Int) := by omega
      have HB := Lib.hid (show false = okBoth n m by simp [okBoth, h2])
      clear h2
      go_enter Try.func71, Try.ntmps71
      go_wp2_with (go_at_call 58; refine (c_l01Few _ _ _ _).mono ?_; rintro e w' ⟨rfl, rfl⟩; rw [H2.out])
      go_ret
      exact ⟨ret_b HB.out, rfl⟩
  · have h1' : (n : Int) ≤ 0 := by omega
    have HB := Lib.hid (show false = okBoth n m by simp [okBoth, h1])
    clear h1
    go_enter Try.func71, Try.ntmps71
    go_wp2_with fail
    go_ret
    exact ⟨ret_b HB.out, rfl⟩
set_option maxRecDepth 20000 in
set_option maxHeartbeats 4000000 in
theorem c_l05Less (a b : Option Addr) (n ca cb : Nat) (ys ts : List Nat) (w : World) (ha : IsFloats .f32 w a n ca ys) (hb : IsFloats .f32 w b n cb ts) (hn : n ≤ 256) : Calls Try.prog 72 #[.slice a n ca, .slice b n cb] w (RetLs ((List.range n).map (gapOf ys ts)) w) := by
  have HA := Lib.hid ha
  have HB := Lib.hid hb
  obtain ⟨i0, hi, hz0, hz1, hz2⟩ := info_parts info_f32
  have HI := Lib.hid hi
  have HZ0 := Lib.hid hz0
  have HZ1 := Lib.hid hz1
  have HZ2 := Lib.hid hz2
  clear ha hb hi hz0 hz1 hz2
  go_enter Try.func72, Try.ntmps72
  go_wp2_with fail
  go_loopw [5, 6] (fun s i wr => GrowRel (gapOf ys ts) n w.heap.size w s i wr) (fun _ i _ => n - (intOf i).toNat)
  case atStart => exact grow_first (Nat.le_refl _) rfl (Below.refl _ _) (Nat.le_refl _)
  case round =>
    obtain ⟨k, q, cp, xs, hk, rfl, rfl, hy, ho, he, hl⟩ := hrel
    have HY := Lib.hid hy
    have HO := Lib.hid ho
    have HE := Lib.hid he
    have HL := Lib.hid hl
    have hk0 : (0 : Int) ≤ (k : Int) := by omega
    clear hy ho he hl
    by_cases hlt : k < n
    · have hlt' : (k : Int) < (n : Int) := by omega
      rcases HA.out.2.2.2.2 with h' | ⟨ab, off, rfl, hab, hcell⟩
      · omega
      rcases HB.out.2.2.2.2 with h' | ⟨ab2, off2, rfl, hab2, hcell2⟩
      · omega
      have hx : wr.cell? ⟨ab, off + k, none⟩ = some (.float .f32 (ys.getD k 0)) := (HL.out.cell (p := ⟨ab, off + k, none⟩) hab).trans (hcell k hlt)
      have hx2 : wr.cell? ⟨ab2, off2 + k, none⟩ = some (.float .f32 (ts.getD k 0)) := (HL.out.cell (p := ⟨ab2, off2 + k, none⟩) hab2).trans (hcell2 k hlt)
      have HG := Lib.hid (show ∀ x y w1, ys.getD k 0 = x → ts.getD k 0 = y → canon .f32 (fval .sub .f32 x y w1) = gapOf ys ts k by intro x y w1 h1 h2; rw [canon_fval, ← h1, ← h2]; rfl)
      obtain ⟨x, hxx⟩ : ∃ x, ys.getD k 0 = x := ⟨_, rfl⟩
      obtain ⟨y, hyy⟩ : ∃ x, ts.getD k 0 = x := ⟨_, rfl⟩
      rw [hxx] at hx
      rw [hyy] at hx2
      have HG2 := Lib.hid (fun w1 => HG.out x y w1 hxx hyy)
      clear hcell hcell2 hxx hyy HG
      have A1 := Lib.hid (show xs.length + 1 ≤ maxLen by have := HY.out; unfold maxLen; omega)
      have A2 := Lib.hid (show (xs.length + 1) * 4 ≤ 140737488355328 by have := HY.out; omega)
      have A3 := Lib.hid HL.out.size
      go_wp2_with fail
      go_region_law (refine step_append_any _ rfl (.tmp 14) (.tmp 24) 30 rfl w.heap.size 22 i0 (.float .f32 0) 1 4 Try.underlying30 HI.out HZ0.out HZ1.out HZ2.out rfl Nat.one_pos (.slice q xs.length cp) xs.length (xs.map (Value.float .f32)) rfl (grow_own HO.out) (wr.heap.size + 1) (some ⟨wr.heap.size, 0, none⟩) 1 1 [.float .f32 _] rfl grow_reads (one_f32 _) A1.out A2.out (grow_base A3.out) ?_; intro v' w' hown hgr hat; obtain ⟨a', c', rfl⟩ := ownsRow_slice hown; have hmade := grow_next (n := n) hlt HO.out (Nat.le_refl _) HL.out HE.out HY.out (fval_lt .sub .f32 _ _ _) (HG2.out _) hown hgr; have HMD := Lib.hid hmade; clear hown hgr hat hmade)
      all_goals
        go_wp2_with fail
        go_roundw
        case rel => exact HMD.out
        case measure => simp [intOf]; omega
    · obtain rfl : k = n := by omega
      go_wp2_with fail
      go_ret
      exact ⟨q, cp, xs, rfl, HO.out, HE.out, HL.out⟩
end Go.Proofs.Ytaklcmibpnpffaa
