/-
  Gathering, in the program: one number's round, with the rests in a map. Conditions: the numbers can be read.
-/
import Derived.Test.YtgffcmmdmenefaaGas
import Derived.Maps.OwnSet
import Derived.Maps.Views
import Derived.Maps.RangeWalk
namespace Go.Proofs.Ytgffcmmdmenefaa
open Go.RowKit Go.Deep Go.WideShapes Go.ChangeShapes Go.Maps
set_option linter.unusedVariables false
attribute [local go_sem] World.drewN_zero

def RF (v : Value) : Option (DataW Value × List MemPlace) :=
  match v with
  | .float .f32 b => if b < 4294967296 then some (.held (.float .f32 b), []) else none
  | _ => none
theorem RF_mk {b : Nat} (h : b < 4294967296) : RF (.float .f32 b) = some (.held (.float .f32 b), []) := by show (if _ then _ else _) = _; rw [if_pos h]
theorem RF_inv {v : Value} {y : DataW Value × List MemPlace} (h : RF v = some y) : ∃ b, v = .float .f32 b ∧ b < 4294967296 ∧ y = (.held (.float .f32 b), []) := by
  unfold RF at h
  split at h
  · split at h
    · rename_i b hb; cases h; exact ⟨b, rfl, hb, rfl⟩
    · cases h
  · cases h
theorem keyLawI : Keyed Try.prog 3 := int_keyed Try.underlying3
theorem zero_f32 (w : World) : (zeroValue 22).run Try.prog w = .ok (.float .f32 0) w := by kernel_rfl
theorem key_mk {j : Nat} (h : j ≤ 1048576) : keyOf Try.prog 3 (.int .i64 j) = some (.int .i64 j) := keyOf_int_mk Try.underlying3 (by simp [Lit.wf, IntKind.min, IntKind.max, IntKind.signed, IntKind.bits]; omega)
/-- what the map of rests says: no other keys, and of each number its rest -/
def RestD (n : Nat) (T : Nat → Nat) (D : DataW Value) : Prop :=
  (∀ x : Int, Maps.has D (.int .i64 x) = true → 0 ≤ x ∧ x < n) ∧ ∀ j : Nat, j < n → ∃ b, b < 4294967296 ∧ canon .f32 b = T j ∧ D.atKey (.int .i64 j) (.held (.float .f32 0)) = .held (.float .f32 b)
def MapAt (w : World) (M m n : Nat) (T : Nat → Nat) : Prop := ∃ D, w.ownsMap Try.prog 3 RF M m D ∧ RestD n T D
theorem int_ne {x y : Int} (h : x ≠ y) : (Lit.int .i64 x) ≠ (Lit.int .i64 y) := fun e => h (by injection e)
theorem key_lit {j : Nat} : WideAt.IsKeyLit (.int .i64 j) := by first | exact trivial | simp [WideAt.IsKeyLit]
theorem rest_put {n j v : Nat} {T T' : Nat → Nat} {D : DataW Value} (h : RestD n T D) (hm : IsMap D) (hj : j < n) (hv : v < 4294967296) (hc : canon .f32 v = T' j) (he : ∀ i, i ≠ j → T i = T' i) : RestD n T' (D.put (.int .i64 j) (.held (.float .f32 v))) := by
  refine ⟨fun x hx => ?_, fun i hi => ?_⟩
  · by_cases e : x = j
    · subst e; omega
    · rw [has_put_other (int_ne e)] at hx; exact h.1 x hx
  · by_cases e : i = j
    · subst e; exact ⟨v, hv, hc, atKey_put_same hm key_lit _ _⟩
    · obtain ⟨b, hb, hb2, hb3⟩ := h.2 i hi
      exact ⟨b, hb, hb2.trans (he i e), by rw [atKey_put_other (int_ne (by omega))]; exact hb3⟩
theorem rest_del {n j : Nat} {T T' : Nat → Nat} {D : DataW Value} (h : RestD n T D) (hj : j < n) (hc : T' j = 0) (he : ∀ i, i ≠ j → T i = T' i) : RestD n T' (D.del (.int .i64 j)) := by
  refine ⟨fun x hx => ?_, fun i hi => ?_⟩
  · by_cases e : x = j
    · subst e; rw [has_del_same] at hx; cases hx
    · rw [has_del_other (int_ne e)] at hx; exact h.1 x hx
  · by_cases e : i = j
    · subst e; exact ⟨0, by decide, by rw [hc]; decide +kernel, atKey_del_same _⟩
    · obtain ⟨b, hb, hb2, hb3⟩ := h.2 i hi
      exact ⟨b, hb, hb2.trans (he i e), by rw [atKey_del_other (int_ne (by omega))]; exact hb3⟩
theorem rest_look {w : World} {M m n j : Nat} {T : Nat → Nat} {D : DataW Value} (h : w.ownsMap Try.prog 3 RF M m D) (hr : RestD n T D) (hj : j < n) (hn : n ≤ 256) :
    ∃ b, b < 4294967296 ∧ canon .f32 b = T j ∧ (Instr.lookup 81 (.map (some M)) (.int .i64 j) false).run Try.prog w = .ok (.float .f32 b) w := by
  obtain ⟨v, ps, hrun, hv⟩ := h.lookup keyLawI Try.underlying81 (zero_f32 w) (RF_mk (b := 0) (by decide)) (key_mk (j := j) (by omega))
  obtain ⟨b, hb, hb2, hb3⟩ := hr.2 j hj
  rw [hb3] at hv
  obtain ⟨b', rfl, _, e⟩ := RF_inv hv
  injection e with e1 _
  injection e1 with e2
  injection e2 with _ e3
  exact ⟨b, hb, hb2, by rw [e3]; exact hrun⟩
theorem map_drewN {w : World} {M m : Nat} {D : DataW Value} (h : w.ownsMap Try.prog 3 RF M m D) (d : Nat) : (w.drewN d).ownsMap Try.prog 3 RF M m D := h
/-- the rests behind the round of number j -/
def nextT (T : Nat → Nat) (x j i : Nat) : Nat := if i = j then cop .sub .f32 (cop .add .f32 (canon .f32 x) (T j)) (cbf (cop .add .f32 (canon .f32 x) (T j))) else T i
def GathRet (B gs M m n j x : Nat) (T : Nat → Nat) (xs : List Nat) (w : World) (w' : World) : Prop :=
  ∃ u, u < 2 ^ 32 ∧ canon .f32 u = cop .add .f32 (canon .f32 (xs.getD j 0)) (cbf (cop .add .f32 (canon .f32 x) (T j))) ∧ OwnF w' B (some ⟨gs, 0, none⟩) n (xs.set j u) ∧ MapAt w' M (m + 1) n (nextT T x j) ∧ Below B w w' ∧ w.heap.size ≤ w'.heap.size ∧ ∀ g, g < w.heap.size → g ≠ gs → g ≠ M → w'.heap[g]? = w.heap[g]?
set_option maxRecDepth 20000 in
set_option maxHeartbeats 2000000 in
theorem c_gather (B gs M m n j x : Nat) (T : Nat → Nat) (xs : List Nat) (w : World) (hB : B ≤ w.heap.size) (hM : B ≤ M) (hne : M ≠ gs) (hj : j < n) (hn : n ≤ 256) (hm : m ≤ 100000) (hx : xs.length = n) (hxl : x < 4294967296) (ho : OwnF w B (some ⟨gs, 0, none⟩) n xs) (hmap : MapAt w M m n T) :
    Calls Try.prog 75 #[.agg #[.slice (some ⟨gs, 0, none⟩) n n, .map (some M)], .int .i64 j, .float .f32 x] w fun e w' => e = .returned (.tuple #[]) ∧ GathRet B gs M m n j x T xs w w' := by
  obtain ⟨D, hown, hrest⟩ := hmap
  have HREST := Lib.hid hrest
  have HBX := Lib.hid (show ¬ gs = w.heap.size from Nat.ne_of_lt (ho.lt gs rfl).2)
  have hB1 : Below B w (w.alloc (.cells #[.slice (some ⟨gs, 0, none⟩) n n, .map (some M)] 83)) := (Below.refl B w).alloc hB _
  have K1 := Lib.hid (Blk.new w 83 #[.slice (some ⟨gs, 0, none⟩) n n, .map (some M)])
  have HO1 := Lib.hid (ho.kept ((Below.refl w.heap.size w).alloc (Nat.le_refl _) (.cells #[.slice (some ⟨gs, 0, none⟩) n n, .map (some M)] 83)))
  have HM1 := Lib.hid (hown.alloc (.cells #[.slice (some ⟨gs, 0, none⟩) n n, .map (some M)] 83))
  have HB1 := Lib.hid hB1
  obtain ⟨b, hb, hb2, hrun⟩ := rest_look HM1.out hrest hj hn
  have HB2 := Lib.hid hb2
  have HJ := Lib.hid hj
  have HN := Lib.hid hn
  have HNE := Lib.hid hne
  have hlj' : (j : Int) < (n : Int) := by omega
  have hj0 : (0 : Int) ≤ (j : Int) := by omega
  clear hown hrest hB1 hb2 ho hb
  go_enter Try.func75, Try.ntmps75
  go_wp2_with fail
  have HYC := Lib.hid (canon_fval .add .f32 x b (w.alloc (.cells #[.slice (some ⟨gs, 0, none⟩) n n, .map (some M)] 83)))
  have HYL := Lib.hid (fval_lt .add .f32 x b (w.alloc (.cells #[.slice (some ⟨gs, 0, none⟩) n n, .map (some M)] 83)))
  obtain ⟨y, hy⟩ : ∃ y, fval .add .f32 x b (w.alloc (.cells #[.slice (some ⟨gs, 0, none⟩) n n, .map (some M)] 83)) = y := ⟨_, rfl⟩
  obtain ⟨d, hd⟩ : ∃ d, fdr .add .f32 x b = d := ⟨_, rfl⟩
  rw [hy] at HYC HYL ⊢
  rw [hd]
  have K2 := Lib.hid (K1.out.below (below_drewN (Below.refl _ _) d))
  have HO2 := Lib.hid (HO1.out.drewN d)
  have HM2 := Lib.hid (map_drewN HM1.out d)
  have HB3 := Lib.hid (below_drewN HB1.out d)
  have HBW := Lib.hid (below_drewN ((Below.refl w.heap.size w).alloc (Nat.le_refl _) (.cells #[.slice (some ⟨gs, 0, none⟩) n n, .map (some M)] 83)) d)
  generalize (w.alloc (.cells #[.slice (some ⟨gs, 0, none⟩) n n, .map (some M)] 83)).drewN d = w2 at *
  clear hy hd K1 HO1 HM1 HB1
  refine (c_iBfloatOf y HYL.out _).mono ?_
  rintro e w3 ⟨r, hr, hrl, rfl, rfl⟩
  have HR := Lib.hid (hr.trans (cbf_of y))
  have HRL := Lib.hid hrl
  clear hr hrl
  have HYT := Lib.hid (show canon .f32 y = cop .add .f32 (canon .f32 x) (T j) by rw [HYC.out, HB2.out])
  obtain ⟨Z, hZ⟩ : ∃ Z, (FloatKind.f32.format.order (cop .sub .f32 (canon .f32 y) (cbf (canon .f32 y))) 0 == some .eq) = Z := ⟨_, rfl⟩
  have HZ := Lib.hid hZ
  have ht : ∀ w, (FloatKind.f32.format.order (fval .sub .f32 y r w) 0 == some .eq) = Z := fun w => by rw [order_fval_l, HR.out]; exact HZ.out
  obtain ⟨c1, f1⟩ := own_cell HO2.out (show j < xs.length by omega)
  obtain ⟨s, hs⟩ : ∃ s, xs.getD j 0 = s := ⟨_, rfl⟩
  have HS := Lib.hid hs
  rw [hs] at c1
  have p0 : w2.cell? ⟨w.heap.size, 0, none⟩ = some (.slice (some ⟨gs, 0, none⟩) n n) := K2.out.cell 0
  have p1 : w2.cell? ⟨w.heap.size, 1, none⟩ = some (.map (some M)) := K2.out.cell 1
  have hbx := HBX.out
  have hbx' : ¬ w.heap.size = gs := fun h => hbx h.symm
  have HKG := Lib.hid (fun (v : Value) (d1 d2 : Nat) => show ((((w2.drewN d1).setCell ⟨gs, j, none⟩ v).drewN d2).ownsMap Try.prog 3 RF M m D) from map_drewN ((map_drewN HM2.out d1).setCell (a := ⟨gs, j, none⟩) HNE.out v) d2)
  have HKO := Lib.hid (fun (v d1 d2 : Nat) (hv : v < 2 ^ 32) => (own_set (HO2.out.drewN d1) (show j < xs.length by omega) hv).drewN d2)
  have HGS := Lib.hid (HO2.out.lt gs rfl).1
  have HKB := Lib.hid (fun (v : Value) (d1 d2 : Nat) => below_drewN ((below_drewN HB3.out d1).setCell (p := ⟨gs, j, none⟩) HGS.out v) d2)
  have hkey := Lib.hid (key_mk (j := j) (by omega))
  have HKH := Lib.hid (fun (g : Nat) (hg : g < w.heap.size) (hne : g ≠ gs) (v : Value) (d1 d2 : Nat) => show (((w2.drewN d1).setCell ⟨gs, j, none⟩ v).drewN d2).heap[g]? = w.heap[g]? from (Below.heap_setCell (w2.drewN d1) ⟨gs, j, none⟩ v g hne).trans (HBW.out.block g hg))
  have HKS := Lib.hid (fun (v : Value) (d1 d2 : Nat) => show w.heap.size ≤ (((w2.drewN d1).setCell ⟨gs, j, none⟩ v).drewN d2).heap.size from Nat.le_trans HBW.out.size (by simp))
  have HNEW := Lib.hid (fun w => show canon .f32 (fval .add .f32 s r w) = cop .add .f32 (canon .f32 (xs.getD j 0)) (cbf (cop .add .f32 (canon .f32 x) (T j))) by rw [canon_fval, HR.out, HYT.out, HS.out])
  have HRES := Lib.hid (fun w => show canon .f32 (fval .sub .f32 y r w) = nextT T x j j by unfold nextT; rw [if_pos rfl, canon_fval, HR.out, HYT.out])
  have HOTH := Lib.hid (fun i (h : i ≠ j) => show T i = nextT T x j i by unfold nextT; rw [if_neg h])
  have hmm : m < maxLen := by unfold maxLen; omega
  clear hZ hs hrun
  cases Z with
  | true =>
    have HZT := Lib.hid (show nextT T x j j = 0 by
      unfold nextT
      rw [if_pos rfl, ← HYT.out]
      exact rest_zero (canon32_lt HYL.out) HZ.out)
    go_wp2_with (at_delete; refine wpList_delete_own _ rfl _ _ 81 3 rfl 22 keyLawI Try.underlying81 RF M m D rfl (HKG.out _ _ _) _ _ rfl hkey.out ?_; intro w4 hown4 hturn4)
    refine bodyPost_ret (v := .tuple #[]) (by simp [results, Try.results75]) rfl ⟨rfl, ?_⟩
    have hg := hturn4.grown
    exact ⟨_, fval_lt .add .f32 _ _ _, HNEW.out _, (HKO.out _ _ _ (fval_lt .add .f32 _ _ _)).apart (b := some ⟨M, 0, none⟩) hg (fun g h h' => HNE.out (by simp [blk] at h h'; omega)), ⟨_, hown4.mono (Nat.le_succ _), rest_del HREST.out HJ.out HZT.out HOTH.out⟩, (HKB.out _ _ _).grown hg (Nat.le_trans hB (HKB.out _ _ _).size) (fun k hk => by cases hk; exact hM), Nat.le_trans (HKS.out _ _ _) hg.size, fun g h1 h2 h3 => (hg.block g (Nat.lt_of_lt_of_le h1 (HKS.out _ _ _)) (fun e => h3 (by cases e; rfl))).trans (HKH.out g h1 h2 _ _ _)⟩
  | false =>
    go_wp2_with (at_mapUpdate; refine wpList_mapUpdate_own _ rfl _ _ _ 81 rfl 3 22 keyLawI Try.underlying81 RF M m D rfl (HKG.out _ _ _) hmm _ _ _ rfl rfl hkey.out _ [] (RF_mk (fval_lt .sub .f32 _ _ _)) ?_; intro w4 hown4 hgrow4)
    refine bodyPost_end (v := .tuple #[]) (by simp [results, Try.results75]) rfl ⟨rfl, ?_⟩
    exact ⟨_, fval_lt .add .f32 _ _ _, HNEW.out _, (HKO.out _ _ _ (fval_lt .add .f32 _ _ _)).apart (b := some ⟨M, 0, none⟩) hgrow4 (fun g h h' => HNE.out (by simp [blk] at h h'; omega)), ⟨_, hown4, rest_put HREST.out HM2.out.isMap HJ.out (fval_lt .sub .f32 _ _ _) (HRES.out _) HOTH.out⟩, (HKB.out _ _ _).grown hgrow4 (Nat.le_trans hB (HKB.out _ _ _).size) (fun k hk => by cases hk; exact hM), Nat.le_trans (HKS.out _ _ _) hgrow4.size, fun g h1 h2 h3 => (hgrow4.block g (Nat.lt_of_lt_of_le h1 (HKS.out _ _ _)) (fun e => h3 (by cases e; rfl))).trans (HKH.out g h1 h2 _ _ _)⟩
/-! all rests, out of the map, in whatever order it hands them over -/
def restF (T : Nat → Nat) (left : Lit → Bool) (j : Nat) : Nat := if left (.int .i64 j) = true then 0 else T j
theorem rest_absent {n j : Nat} {T : Nat → Nat} {D : DataW Value} (h : RestD n T D) (hj : j < n) (hh : Maps.has D (.int .i64 j) = false) : T j = 0 := by
  obtain ⟨b, _, hb, e⟩ := h.2 j hj
  rw [atKey_of_not_has hh] at e
  injection e with e1
  injection e1 with _ e2
  subst e2
  rw [← hb]; decide +kernel
theorem restF_step {T : Nat → Nat} {left : Lit → Bool} {n j c : Nat} {xs : List Nat} (ex : xs.map (canon .f32) = (List.range n).map (restF T left)) (hc : canon .f32 c = T j) :
    (xs.set j c).map (canon .f32) = (List.range n).map (restF T (fun z => left z && !z.sameKey (.int .i64 j))) := by
  refine map_set_range ex ?_ (fun i h => ?_)
  · have e := WideAt.sameKey_self (key_lit (j := j))
    unfold restF
    simp [hc, e]
  · have e := Maps.sameKey_ne (int_ne (show (i : Int) ≠ (j : Int) by omega))
    unfold restF
    simp [e]
def RestsRel (gl gi n B : Nat) (M m : Nat) (T : Nat → Nat) (D : DataW Value) (w wr : World) : Prop :=
  ∃ (left : Lit → Bool) (cnt : Nat) (xs : List Nat), wr.ranges Try.prog 3 RF M gi m D left cnt ∧ xs.length = n ∧ OwnF wr B (some ⟨gl, 0, none⟩) n xs ∧ xs.map (canon .f32) = (List.range n).map (restF T left) ∧ (∀ kl, left kl = true → Maps.has D kl = true) ∧ Below w.heap.size w wr
set_option maxRecDepth 20000 in
set_option maxHeartbeats 2000000 in
theorem c_allRests (gs M m n : Nat) (T : Nat → Nat) (w : World) (hn : n ≤ 256) (hmap : MapAt w M m n T) :
    Calls Try.prog 76 #[.agg #[.slice (some ⟨gs, 0, none⟩) n n, .map (some M)]] w (RetLs ((List.range n).map T) w) := by
  obtain ⟨D, hown, hrest⟩ := hmap
  have HREST := Lib.hid hrest
  have HBX := Lib.hid (show ¬ M = w.heap.size from Nat.ne_of_lt hown.lt)
  have K1 := Lib.hid (Blk.new w 83 #[.slice (some ⟨gs, 0, none⟩) n n, .map (some M)])
  have HM1 := Lib.hid (hown.alloc (.cells #[.slice (some ⟨gs, 0, none⟩) n n, .map (some M)] 83))
  have HB1 := Lib.hid ((Below.refl w.heap.size w).alloc (Nat.le_refl _) (.cells #[.slice (some ⟨gs, 0, none⟩) n n, .map (some M)] 83))
  obtain ⟨i0, hi, hz0, hz1, hz2⟩ := info_parts info_f32
  have HI := Lib.hid hi
  have HZ0 := Lib.hid hz0
  have HZ1 := Lib.hid hz1
  have HZ2 := Lib.hid hz2
  clear hown hrest hi hz0 hz1 hz2
  go_enter Try.func76, Try.ntmps76
  go_wp2_with (at_make; refine wpList_make_full _ rfl _ _ 33 rfl w.heap.size 22 i0 (.float .f32 0) 1 Try.underlying33 HI.out HZ0.out HZ1.out _ _ _ _ n rfl rfl rfl rfl ?c1 ?c2 ?c3 ?_)
  case c1 => rw [HZ2.out]; omega
  case c2 => unfold maxLen; omega
  case c3 => exact HB1.out.size
  intro w1 hown hgrow
  have hb1 := HB1.out.grown hgrow HB1.out.size (fun k h => by cases h)
  rw [toList_madeCells_one] at hown
  have HO := Lib.hid (own_zeros hown)
  have HB2 := Lib.hid hb1
  have HM2 := Lib.hid (HM1.out.kept hgrow (by simp))
  have K2 := Lib.hid (show Blk w1 w.heap.size 83 #[.slice (some ⟨gs, 0, none⟩) n n, .map (some M)] from (hgrow.block _ K1.out.lt (by simp)).trans K1.out)
  have HGL := Lib.hid (show M ≠ w.heap.size + 1 by have := HM1.out.lt; have := HBX.out; simp at *; omega)
  clear hown hgrow hb1 HM1 HB1 K1
  have p1 : w1.cell? ⟨w.heap.size, 1, none⟩ = some (.map (some M)) := K2.out.cell 1
  go_wp2_with (at_range; refine wpList_range_own _ rfl _ 81 rfl 3 22 keyLawI Try.underlying81 RF M m D rfl HM2.out ?_; intro w2 hrg hgr hsz)
  have HGI := Lib.hid (show w.heap.size + 1 ≠ w1.heap.size from Nat.ne_of_lt (HO.out.lt _ rfl).2)
  have HST := Lib.hid (show RestsRel (w.heap.size + 1) w1.heap.size n w.heap.size M m T D w w2 from
    ⟨Maps.has D, Maps.size D, List.replicate n 0, hrg, by simp, HO.out.apart (b := none) hgr (fun g h h' => by cases h'), by
      apply List.ext_getElem (by simp)
      intro j h1 h2
      have hj : j < n := by simpa using h1
      simp only [List.getElem_map, List.getElem_replicate, List.getElem_range]
      unfold restF
      split
      · decide +kernel
      · rename_i hh
        rw [rest_absent HREST.out hj (by simpa using hh)]; decide +kernel, fun kl h => h, HB2.out.grown hgr HB2.out.size (fun k h => by cases h)⟩)
  obtain ⟨gl, hgl⟩ : ∃ g, w.heap.size + 1 = g := ⟨_, rfl⟩
  obtain ⟨gi, hgi⟩ : ∃ g, w1.heap.size = g := ⟨_, rfl⟩
  have HGM := Lib.hid (show M ≠ gl by rw [← hgl]; exact HGL.out)
  have HGI0 := Lib.hid (show w.heap.size ≤ gi by rw [← hgi]; have h2 : w.heap.size + 1 < w1.heap.size := (HO.out.lt _ rfl).2; omega)
  rw [hgl, hgi] at HST HGI
  clear hrg hgr hsz HO HB2 HM2 K2 p1
  go_frame
  simp only [hgl, hgi]
  clear hgl hgi
  go_loopw [4] (fun _ wr => RestsRel gl gi n w.heap.size M m T D w wr) (fun _ wr => wr.rangeLeft M gi)
  case atStart => exact HST.out
  case round =>
    obtain ⟨left, cnt, xs, hrg, hx, ho, ex, hsub, hl⟩ := hrel
    have HO := Lib.hid ho
    have HX := Lib.hid ex
    have HXL := Lib.hid hx
    have HS := Lib.hid hsub
    have HL := Lib.hid hl
    have HRG := Lib.hid hrg
    clear hrg hx ho ex hsub hl HST
    go_wp2_with (at_next; refine wpList_next_ranges _ rfl _ rfl 3 keyLawI RF (Value.int .i64) (Value.float .f32) (fun key kl h => by obtain ⟨x, rfl, _⟩ := Maps.keyOf_int_inv Try.underlying3 h; exact ⟨x, rfl⟩) (fun v y h => by obtain ⟨b, rfl, _⟩ := RF_inv h; exact ⟨b, rfl⟩) M gi m D left cnt rfl HRG.out ?_ ?_)
    · intro _ hl0
      have HE := Lib.hid (show xs.map (canon .f32) = (List.range n).map T from HX.out.trans (List.map_congr_left fun j _ => by unfold restF; rw [hl0]; simp))
      clear hl0
      go_wp2_with fail
      go_ret
      exact ⟨some ⟨gl, 0, none⟩, n, xs, by rw [HXL.out]; rfl, HO.out, HE.out, HL.out⟩
    · intro x c kl ya yb w3 cnt1 hkey hlx hR hat hrg1 hlt hg1 hs1 hen
      obtain ⟨x', ex', rfl, _⟩ := Maps.keyOf_int_inv Try.underlying3 hkey
      cases ex'
      obtain ⟨c', ec', hcl, ey⟩ := RF_inv hR
      cases ec'
      injection ey with ey1 _
      subst ey1
      obtain ⟨j0, j1⟩ := HREST.out.1 x (HS.out _ hlx)
      obtain ⟨j, rfl⟩ := Int.eq_ofNat_of_zero_le j0
      have hj : j < n := by omega
      have HC := Lib.hid (show canon .f32 c = T j by
        obtain ⟨b, _, hb, e⟩ := HREST.out.2 j hj
        rw [hat] at e
        injection e with e1
        injection e1 with _ e2
        rw [e2]; exact hb)
      have HO3 := Lib.hid (HO.out.apart (b := some ⟨gi, 0, none⟩) hg1 (fun g h h' => HGI.out (by simp [blk] at h h'; omega)))
      have HL3 := Lib.hid (HL.out.grown hg1 HL.out.size (fun k hk => by cases hk; have := HGI0.out; omega))
      obtain ⟨hc0, hf0⟩ := own_cell HO3.out (show j < xs.length by rw [HXL.out]; exact hj)
      obtain ⟨s0, hs0⟩ : ∃ s, xs.getD j 0 = s := ⟨_, rfl⟩
      rw [hs0] at hc0
      have HRG1 := Lib.hid hrg1
      have HLT := Lib.hid hlt
      have HCL := Lib.hid hcl
      have HGL2 := Lib.hid (HO3.out.lt gl rfl).1
      clear hkey hlx hR hat hrg1 hlt hg1 hs1 hs0 hcl
      go_wp2_with fail
      go_roundw
      case rel =>
        refine ⟨_, cnt1, xs.set j c, HRG1.out.kept (set_grown w3 gl j (.float .f32 c)) (fun e => HGM.out (by cases e; rfl)) (fun e => HGI.out (by cases e; rfl)), by rw [List.length_set, HXL.out], ?_, restF_step HX.out HC.out, fun kl h => HS.out kl (Bool.and_eq_true _ _ ▸ h).1, HL3.out.setCell HGL2.out _⟩
        have := own_set HO3.out (show j < xs.length by rw [HXL.out]; exact hj) HCL.out
        exact this
      case measure =>
        have e1 := (HRG1.out.kept (set_grown w3 gl j (.float .f32 c)) (fun e => HGM.out (by cases e; rfl)) (fun e => HGI.out (by cases e; rfl))).left_eq
        have e2 := HRG.out.left_eq
        have := HLT.out
        omega
end Go.Proofs.Ytgffcmmdmenefaa
