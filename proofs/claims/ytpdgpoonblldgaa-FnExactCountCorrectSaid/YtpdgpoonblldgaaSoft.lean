/-
  Shares of exponentials, as the program makes them; that no number of a list is greater than the one that the index of the greatest tells. Conditions: the numbers can be read.
-/
import Derived.Test.YtpdgpoonblldgaaGix
import Derived.Test.YtpdgpoonblldgaaLoss
import Derived.Test.YtpdgpoonblldgaaExpN
import Derived.Deep.RegionLaw
import Derived.BigRegion
import Derived.BigQuiet
import Derived.Deep.QuietTactic
namespace Go.Proofs.Ytpdgpoonblldgaa
open Go.RowKit Go.Deep Go.WideShapes Go.ChangeShapes
set_option linter.unusedVariables false

theorem ord32 {x y : Nat} (hx : isNan .f32 x = false) (hy : isNan .f32 y = false) : FloatKind.f32.format.order x y = some (compare (key Ieee.single x) (key Ieee.single y)) := order32 hx hy
theorem not_gt_trans {x q k : Nat} (h1 : (FloatKind.f32.format.order x q == some .gt) = false) (h2 : (FloatKind.f32.format.order k q == some .gt) = true) : (FloatKind.f32.format.order x k == some .gt) = false := by
  by_cases hx : isNan .f32 x = true
  · rw [order_isNan_l _ hx]; rfl
  by_cases hk : isNan .f32 k = true
  · rw [order_isNan_r _ hk]; rfl
  by_cases hq : isNan .f32 q = true
  · rw [order_isNan_r _ hq] at h2; cases h2
  have hx : isNan .f32 x = false := by simpa using hx
  have hk : isNan .f32 k = false := by simpa using hk
  have hq : isNan .f32 q = false := by simpa using hq
  rw [ord32 hx hq, Int.compare_eq_ite_lt] at h1
  rw [ord32 hk hq, Int.compare_eq_ite_lt] at h2
  rw [ord32 hx hk, Int.compare_eq_ite_lt]
  generalize key Ieee.single x = X at *
  generalize key Ieee.single q = Q at *
  generalize key Ieee.single k = K at *
  by_cases a1 : K < Q
  · rw [if_pos a1] at h2; cases h2
  · rw [if_neg a1] at h2
    by_cases a2 : Q < K
    · rw [if_pos a2] at h2
      by_cases b1 : X < Q
      · rw [if_pos (by omega)]; rfl
      · rw [if_neg b1] at h1
        by_cases b2 : Q < X
        · rw [if_pos b2] at h1; cases h1
        · rw [if_pos (by omega)]; rfl
    · rw [if_neg a2] at h2; cases h2
/-- none is greater than the greatest -/
theorem gix_max (f : Nat → Nat) : ∀ k i, i < k → (FloatKind.f32.format.order (f i) (f (gixF f k)) == some .gt) = false := by
  intro k
  induction k with
  | zero => intro i hi; omega
  | succ k ih =>
    intro i hi
    cases hg : (FloatKind.f32.format.order (f k) (f (gixF f k)) == some .gt) with
    | true =>
      rw [gixF_yes hg]
      by_cases h : i < k
      · exact not_gt_trans (ih i h) hg
      · obtain rfl : i = k := by omega
        exact order_self_gt _
    | false =>
      rw [gixF_no hg]
      by_cases h : i < k
      · exact ih i h
      · obtain rfl : i = k := by omega
        exact hg
def gmax (z : List Nat) : Nat := z.getD (gixF (fun j => z.getD j 0) z.length) 0
theorem gmax_not (z : List Nat) {x : Nat} (hx : x ∈ z) : (FloatKind.f32.format.order x (gmax z) == some .gt) = false := by
  obtain ⟨i, hi, rfl⟩ := List.mem_iff_getElem.1 hx
  have h := gix_max (fun j => z.getD j 0) z.length i hi
  have e : z.getD i 0 = z[i] := by simp [List.getD, hi]
  rw [← e]
  exact h
/-- the exponential of what a number is less than m -/
def cE (m x : Nat) : Nat := cexp32 (cop .sub .f32 (canon .f32 x) (canon .f32 m))
def cSigma (z : List Nat) : Nat := csum (z.map (cE (gmax z)))
def cShare (z : List Nat) (x : Nat) : Nat := cop .quo .f32 (cE (gmax z) x) (cSigma z)
theorem cE_canon (m x : Nat) : canon .f32 (cE m x) = cE m x := by
  unfold cE cexp32 cnarrow
  split
  · exact canon_nan (isNan_qnan .f32)
  · rename_i h
    have h2 : isNan .f64 (cexpW (cwide (cop .sub .f32 (canon .f32 x) (canon .f32 m)))) = false := by simpa using h
    exact canon_num (k := .f32) (write_num Ieee.single _ h2)
theorem getD_mem {z : List Nat} {i : Nat} (h : i < z.length) : z.getD i 0 ∈ z := by
  unfold List.getD
  rw [List.getElem?_eq_getElem h]
  exact List.getElem_mem _
theorem set1 {w : World} {g : Nat} {t : TypeId} {u v : Value} (h : Blk w g t #[u]) : Blk (w.setCell ⟨g, 0, none⟩ v) g t #[v] := by
  unfold Blk at h ⊢
  simp [World.setCell, Array.getElem?_modify, h]
theorem Blk.away {w : World} {g g' i : Nat} {t : TypeId} {cs : Array Value} (h : Blk w g t cs) (hne : g ≠ g') (v : Value) : Blk (w.setCell ⟨g', i, none⟩ v) g t cs :=
  h.off (g' := g') ⟨rfl, rfl, rfl, by simp, fun k _ hk => Below.heap_setCell _ _ _ k (fun e => hk (by simp [e]))⟩ hne
theorem map_range (l : List Nat) (f : Nat → Nat) : (List.range l.length).map (fun i => f (l.getD i 0)) = l.map f := by
  refine List.ext_getElem (by simp) fun i h1 h2 => ?_
  have h3 : i < l.length := by simpa using h1
  simp [List.getD, h3]
theorem csum_can (zs : List Nat) : csum (zs.map (canon .f32)) = csum zs := by
  have h : ∀ (l : List Nat) (s : Nat), (l.map (canon .f32)).foldl (fun s z => cop .add .f32 s (canon .f32 z)) s = l.foldl (fun s z => cop .add .f32 s (canon .f32 z)) s := by
    intro l
    induction l with
    | nil => intro s; rfl
    | cons x l ih => intro s; simp only [List.map_cons, List.foldl_cons, canon_canon]; exact ih _
  exact h _ _
theorem x_soft1 (x g m : Nat) (w : World) (h : w.cell? ⟨g, 0, none⟩ = some (.float .f32 m)) (hn : (FloatKind.f32.format.order x m == some .gt) = false) : Calls Try.prog 240 (#[.float .f32 x] ++ #[.pointer (some ⟨g, 0, none⟩)]) w (RetX (cE m x) w) := by
  show Calls Try.prog 240 #[.float .f32 x, .pointer (some ⟨g, 0, none⟩)] w _
  have HE := Lib.hid (fun w1 w2 => c_iExpN (fval .sub .f32 x m w1) w2 (sub_neg w1 hn) (fval_lt .sub .f32 x m w1))
  clear hn
  go_enter Try.func240, Try.ntmps240
  go_wp2_with (go_at_call 241; refine (HE.out _ _).mono ?_; rintro e w' ⟨r, n, hr, hl, rfl, rfl⟩; have HR := Lib.hid hr; have HL := Lib.hid hl; clear hr hl)
  go_ret
  exact ⟨r, rfl, by rw [HR.out, canon_fval]; rfl, HL.out, below_drewN (Below.refl _ _) _⟩
theorem x_soft2 (x g s : Nat) (w : World) (h : w.cell? ⟨g, 0, none⟩ = some (.float .f32 s)) : Calls Try.prog 243 (#[.float .f32 x] ++ #[.pointer (some ⟨g, 0, none⟩)]) w (RetX (cop .quo .f32 (canon .f32 x) (canon .f32 s)) w) := by
  show Calls Try.prog 243 #[.float .f32 x, .pointer (some ⟨g, 0, none⟩)] w _
  go_enter Try.func243, Try.ntmps243
  go_wp2
  go_ret
  exact ⟨_, rfl, canon_fval .quo .f32 x s w, fval_lt .quo .f32 _ _ _, below_drewN (Below.refl _ _) _⟩
def RetSm (z : List Nat) (w : World) (e : Ending) (w' : World) : Prop :=
  ∃ a c ys s, e = .returned (.tuple #[.slice a ys.length c, .float .f32 (gmax z), .float .f32 s]) ∧ OwnF w' w.heap.size a c ys ∧ ys.map (canon .f32) = z.map (cShare z) ∧ canon .f32 s = cSigma z ∧ s < 2 ^ 32 ∧ Below w.heap.size w w'
set_option maxRecDepth 20000 in
set_option maxHeartbeats 2000000 in
theorem c_softmaxOf (a : Option Addr) (cap : Nat) (z : List Nat) (w : World) (h : IsFloats .f32 w a z.length cap z) (h1 : 1 ≤ z.length) (h2 : z.length ≤ 256) : Calls Try.prog 239 #[.slice a z.length cap] w (RetSm z w) := by
  have HF := Lib.hid h
  have HM := Lib.hid (fun x hx => gmax_not z (x := x) hx)
  have hq := gixF_lt (fun j => z.getD j 0) h1
  have hgm : z.getD (gixF (fun j => z.getD j 0) z.length) 0 = gmax z := rfl
  have hml : gmax z < 2 ^ 32 := h.2.2.2.1 _ (getD_mem hq)
  have HML := Lib.hid hml
  obtain ⟨q, hqq⟩ : ∃ q, gixF (fun j => z.getD j 0) z.length = q := ⟨_, rfl⟩
  rw [hqq] at hq hgm
  have HQ := Lib.hid hqq
  have hq' : (q : Int) < (z.length : Int) := by omega
  have hq0 : (0 : Int) ≤ (q : Int) := by omega
  rcases h.2.2.2.2 with h0 | ⟨b, off, rfl, hb, hc⟩
  · omega
  have hcq := hc q hq
  rw [hgm] at hcq
  have HCQ := Lib.hid hcq
  have HBK := Lib.hid hb
  have B0 := Lib.hid (((Below.refl w.heap.size w).alloc (Nat.le_refl _) (.cells #[.float .f32 0] 67)).alloc (by simp) (.cells #[.float .f32 0] 67))
  have K3 := Lib.hid ((Blk.new w 67 #[.float .f32 0]).below ((Below.refl _ _).alloc (Nat.le_refl _) (.cells #[.float .f32 0] 67)))
  have K4 := Lib.hid (show Blk ((w.alloc (.cells #[.float .f32 0] 67)).alloc (.cells #[.float .f32 0] 67)) (w.heap.size + 1) 67 #[.float .f32 0] by simpa using Blk.new (w.alloc (.cells #[.float .f32 0] 67)) 67 #[.float .f32 0])
  clear h hc hqq hgm hml hcq hb
  go_enter Try.func239, Try.ntmps239
  go_wp2_with fail
  refine (c_greatestIndex _ _ _ z _ (HF.out.kept B0.out) h1 h2).mono ?_
  rintro e w' ⟨rfl, rfl⟩
  rw [HQ.out]
  obtain ⟨gm, hgm⟩ : ∃ gm, gmax z = gm := ⟨_, rfl⟩
  have HGM := Lib.hid hgm
  rw [hgm] at HM HML HCQ
  clear hgm
  generalize (w.alloc (.cells #[.float .f32 0] 67)).alloc (.cells #[.float .f32 0] 67) = w1 at B0 K3 K4 ⊢
  have hc1 := (B0.out.cell (p := ⟨b, off + q, none⟩) HBK.out).trans HCQ.out
  have k0 := K3.out.cell 0
  have k1 := K3.out.frozen 0
  go_wp2_with fail
  have B1 := Lib.hid (B0.out.setCell (p := ⟨w.heap.size, 0, none⟩) (Nat.le_refl _) (.float .f32 gm))
  have K3a := Lib.hid (set1 (v := .float .f32 gm) K3.out)
  have K4a := Lib.hid (K4.out.away (g' := w.heap.size) (i := 0) (by omega) (.float .f32 gm))
  generalize w1.setCell ⟨w.heap.size, 0, none⟩ (.float .f32 gm) = w2 at B1 K3a K4a ⊢
  clear hc1 k0 k1 B0 K3 K4
  refine (c_eachOfIn 240 #[.pointer (some ⟨w.heap.size, 0, none⟩)] (cE gm) _ _ _ z _ (HF.out.kept B1.out) (by omega) (enters_of Try.func240 (by kernel_rfl) (by kernel_rfl)) (fun x wr hx hmem hb => x_soft1 x _ gm wr ((K3a.out.below hb).cell 0) (HM.out x hmem))).mono ?_
  rintro e w3 ⟨b1, c1, es, rfl, ho, he, hb⟩
  have hel : es.length = z.length := by have := congrArg List.length he; simpa using this
  have he2 : es.map (canon .f32) = z.map (cE gm) := he.trans (map_range z (cE gm))
  have HEL := Lib.hid hel
  have HE := Lib.hid he2
  have HNE := Lib.hid (show ∀ j, blk b1 = some j → j ≠ w.heap.size + 1 from fun j hj => by have h1 := (ho.lt j hj).1; have h2 := (Array.getElem?_eq_some_iff.1 K4a.out).1; omega)
  have O3 := Lib.hid (ho.base B1.out.size)
  have B3 := Lib.hid (Below.next B1.out hb)
  have K3b := Lib.hid (K3a.out.below hb)
  have K4b := Lib.hid (K4a.out.below hb)
  clear ho he hb hel he2 B1 K3a K4a
  go_wp2_with fail
  refine (c_sumInOrder _ _ _ es _ O3.out.isFloats).mono ?_
  rintro e w4 ⟨sr, d, hs, hsl, rfl, rfl⟩
  have HS := Lib.hid (show canon .f32 sr = csum (z.map (cE gm)) by rw [hs, ← HE.out, csum_can])
  have HSL := Lib.hid hsl
  have B4 := Lib.hid (below_drewN B3.out d)
  have O4 := Lib.hid (O3.out.drewN d)
  have K3c := Lib.hid (K3b.out.below (below_drewN (Below.refl _ _) d))
  have K4c := Lib.hid (K4b.out.below (below_drewN (Below.refl _ _) d))
  clear hs hsl B3 O3 K3b K4b
  generalize w3.drewN d = w4 at B4 O4 K3c K4c ⊢
  have k0 := K4c.out.cell 0
  have k1 := K4c.out.frozen 0
  go_wp2_with fail
  have B5 := Lib.hid (B4.out.setCell (p := ⟨w.heap.size + 1, 0, none⟩) (Nat.le_succ _) (.float .f32 sr))
  have K4d := Lib.hid (set1 (v := .float .f32 sr) K4c.out)
  have K3d := Lib.hid (K3c.out.away (g' := w.heap.size + 1) (i := 0) (by omega) (.float .f32 sr))
  have O5 := Lib.hid (far_set (g := w.heap.size + 1) (k := 0) (v := sr) O4.out HNE.out)
  generalize w4.setCell ⟨w.heap.size + 1, 0, none⟩ (.float .f32 sr) = w5 at B5 K3d K4d O5 ⊢
  clear k0 k1 B4 K3c K4c O4
  refine (c_eachOf 243 #[.pointer (some ⟨w.heap.size + 1, 0, none⟩)] (fun x => cop .quo .f32 (canon .f32 x) (canon .f32 sr)) _ _ _ es _ O5.out.isFloats (by have := HEL.out; omega) (enters_of Try.func243 (by kernel_rfl) (by kernel_rfl)) (fun x wr _ hb => x_soft2 x _ sr wr ((K4d.out.below hb).cell 0))).mono ?_
  rintro e w6 ⟨b2, c2, ys, rfl, ho, he, hb⟩
  have HY := Lib.hid (show ys.map (canon .f32) = z.map (fun x => cop .quo .f32 (cE gm x) (canon .f32 sr)) by
    rw [he, map_range es (fun x => cop .quo .f32 (canon .f32 x) (canon .f32 sr))]
    have := congrArg (List.map fun d => cop .quo .f32 d (canon .f32 sr)) HE.out
    simpa [List.map_map, Function.comp_def] using this)
  have HNE1 := Lib.hid (show ∀ j, blk b2 = some j → j ≠ w.heap.size from fun j hj => by have h1 := (ho.lt j hj).1; have h2 := (Array.getElem?_eq_some_iff.1 K4d.out).1; omega)
  have HNE2 := Lib.hid (show ∀ j, blk b2 = some j → j ≠ w.heap.size + 1 from fun j hj => by have h1 := (ho.lt j hj).1; have h2 := (Array.getElem?_eq_some_iff.1 K4d.out).1; omega)
  have O6 := Lib.hid (ho.base B5.out.size)
  have B6 := Lib.hid (Below.next B5.out hb)
  have K3e := Lib.hid (K3d.out.below hb)
  have K4e := Lib.hid (K4d.out.below hb)
  clear ho he hb B5 K3d K4d O5
  have k0 := K3e.out.cell 0
  have k1 := K3e.out.frozen 0
  have k2 := K4e.out.cell 0
  have k3 := K4e.out.frozen 0
  have hne1 : w.heap.size ≠ w.heap.size + 1 := by omega
  have hne2 := Ne.symm hne1
  go_wp2_with fail
  go_region
  all_goals go_wp2_with fail
  have B7 := Lib.hid ((B6.out.setCell (p := ⟨w.heap.size, 0, none⟩) (Nat.le_refl _) (.float .f32 gm)).setCell (p := ⟨w.heap.size + 1, 0, none⟩) (Nat.le_succ _) (.float .f32 sr))
  have K3g := Lib.hid ((set1 (v := .float .f32 gm) K3e.out).away (g' := w.heap.size + 1) (i := 0) (by omega) (.float .f32 sr))
  have K4g := Lib.hid (set1 (v := .float .f32 sr) (K4e.out.away (g' := w.heap.size) (i := 0) (by omega) (.float .f32 gm)))
  have O7 := Lib.hid (far_set (g := w.heap.size + 1) (k := 0) (v := sr) (far_set (g := w.heap.size) (k := 0) (v := gm) O6.out HNE1.out) HNE2.out)
  generalize (w6.setCell ⟨w.heap.size, 0, none⟩ (.float .f32 gm)).setCell ⟨w.heap.size + 1, 0, none⟩ (.float .f32 sr) = w7 at B7 K3g K4g O7 ⊢
  have e : w7.drew = w7.drewN 1 := rfl
  rw [e]
  have j0 := (K3g.out.below (below_drewN (Below.refl _ _) 1)).cell 0
  have j1 := (K4g.out.below (below_drewN (Below.refl _ _) 1)).cell 0
  refine bodyPost_ret (v := .tuple #[.slice b2 ys.length c2, .float .f32 gm, .float .f32 sr]) (by simp [results, Try.results239, asAddr, loadVar, Try.isAgg67, j0, j1]) rfl ?_
  rw [← HGM.out] at HS HY ⊢
  exact ⟨b2, c2, ys, sr, rfl, O7.out.drewN _, by rw [HY.out, HS.out]; rfl, HS.out, HSL.out, below_drewN B7.out _⟩
end Go.Proofs.Ytpdgpoonblldgaa
