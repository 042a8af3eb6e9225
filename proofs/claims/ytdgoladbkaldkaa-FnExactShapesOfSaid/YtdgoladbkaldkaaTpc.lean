/-
  ValidTape and ShapesOf: what both sides answer. Conditions: the cells can be read.
-/
import Derived.Test.YtdgoladbkaldkaaTpm
import Derived.Test.YtdgoladbkaldkaaTpi
import Derived.Test.YtdgoladbkaldkaaWks
namespace Go.Proofs.Ytdgoladbkaldkaa
open Go.RowKit Go.Deep Go.WideShapes Go.ChangeShapes
set_option linter.unusedVariables false
set_option linter.unusedSimpArgs false
attribute [local go_sem] World.drewN_zero

theorem c_l04Is (ps : List TpP) (n : Nat) (g : Option Addr) (cap : Nat) (ls : List TpA) (w : World) (hp : ls.map TpA.p = ps) (h : TpsAt w g n cap ls) :
    Calls Try.prog 31 #[.slice g n cap] w fun e w' => e = .returned (.bool (vValidTape ps)) ∧ Below w.heap.size w w' := by
  obtain rfl : ls.length = n := h.1
  have C := Lib.hid (c_l04Shapes g cap ls w h)
  rw [hp] at C
  clear h
  go_enter Try.func31, Try.ntmps31
  cases hv : vShapes ps with
  | none =>
    rw [hv] at C
    simp only [vValidTape, hv, Option.isSome]
    go_wp2_with (go_at_call 35; refine C.out.mono ?_; rintro e w' ⟨a, m, c, rfl, b⟩; have B := Lib.hid b; clear b)
    go_ret
    exact ⟨rfl, B.out⟩
  | some l =>
    rw [hv] at C
    simp only [vValidTape, hv, Option.isSome]
    go_wp2_with (go_at_call 35; refine C.out.mono ?_; rintro e w' ⟨a, c, rfl, _, b⟩; have B := Lib.hid b; clear b)
    go_ret
    exact ⟨rfl, B.out⟩
theorem t_sValidTape (ps : List TpP) (n : Nat) (g : Option Addr) (cap : Nat) (ls : List TpA) (w : World) (hp : ls.map TpA.p = ps) (h : TpsAt w g n cap ls) :
    Calls Try.prog 8 #[.slice g n cap] w fun e w' => e = .returned (.bool (vValidTape ps)) ∧ Below w.heap.size w w' := by
  have C := Lib.hid (c_l04Is ps n g cap ls w hp h)
  clear h hp
  go_enter Try.func8, Try.ntmps8
  go_wp2_with (go_at_call 31; refine C.out.mono ?_; rintro e w' ⟨rfl, b⟩; have B := Lib.hid b; clear b)
  go_ret
  exact ⟨rfl, B.out⟩
/-! ShapesOf -/
def shapesL (l : List (Int × Int)) : List (List Int) := l.map fun s => [s.1, s.2]
def vShapesOf (ps : List TpP) : Bool × List (List Int) := match vShapes ps with | some l => (true, shapesL l) | none => (false, [])
def inSide (s : Int × Int) : Prop := (1 ≤ s.1 ∧ s.1 ≤ 16) ∧ (1 ≤ s.2 ∧ s.2 ≤ 16)
theorem shapeA_in {kd rw cl : Int} {n : Nat} {v w : Int × Int} (hv : ¬ kd = 0 → inSide v) (hw : tTwo kd = true → inSide w) (h : (shapeA kd rw cl n v w).2 = true) : inSide (shapeA kd rw cl n v w).1 := by
  unfold shapeA at h ⊢
  by_cases h0 : kd = 0
  · rw [if_pos h0] at h ⊢
    simp only [vokB, Bool.and_eq_true] at h
    exact ⟨(sideB_iff _).1 h.1.1, (sideB_iff _).1 h.1.2⟩
  have hv := hv h0
  rw [if_neg h0] at h ⊢
  by_cases h1 : kd = 1 ∨ kd = 3
  · rw [if_pos h1]; exact hv
  rw [if_neg h1] at h ⊢
  by_cases h2 : kd = 2 ∨ kd = 4
  · rw [if_pos h2]; exact hv
  rw [if_neg h2] at h ⊢
  by_cases h6 : kd = 6
  · rw [if_pos h6]
    have hw := hw (by rw [h6]; decide)
    exact ⟨hv.1, hw.2⟩
  rw [if_neg h6] at h ⊢
  by_cases h7 : kd = 7
  · rw [if_pos h7]; exact ⟨hv.2, hv.1⟩
  rw [if_neg h7] at h ⊢
  by_cases h10 : kd = 10
  · rw [if_pos h10]; exact ⟨by decide, by decide⟩
  rw [if_neg h10] at h ⊢
  by_cases h5 : kd = 5 ∨ kd = 8 ∨ kd = 9
  · rw [if_pos h5]; exact hv
  · rw [if_neg h5] at h; cases h
theorem opShape_in {p : TpP} {l : List (Int × Int)} {s : Int × Int} (hl : ∀ x ∈ l, inSide x) (h : opShape p l = some s) : inSide s := by
  unfold opShape at h
  split at h
  · rename_i h1
    split at h
    · rename_i h2
      injection h with h
      subst h
      simp only [Bool.and_eq_true] at h1
      have hin : ∀ x, behind l.length x = true → inSide (l.getD x.toNat (0, 0)) := by
        intro x hx
        simp only [behind, Bool.and_eq_true, decide_eq_true_eq] at hx
        have hlt : x.toNat < l.length := by omega
        rw [List.getD_eq_getElem?_getD, List.getElem?_eq_getElem hlt]
        exact hl _ (List.getElem_mem _)
      refine shapeA_in (fun h0 => ?_) (fun ht => ?_) h2
      · refine hin _ ?_
        have h3 := h1.2
        unfold opsOf at h3
        rw [if_neg h0] at h3
        cases ht : tTwo p.kd <;> simp [ht] at h3
        · exact h3
        · exact h3.1
      · refine hin _ ?_
        have h3 := h1.2
        have h0 : ¬ p.kd = 0 := fun e => by rw [e] at ht; exact absurd ht (by decide)
        unfold opsOf at h3
        rw [if_neg h0, if_pos ht] at h3
        simp at h3
        exact h3.2
    · cases h
  · cases h
theorem shUp_in {ps : List TpP} : ∀ {k : Nat} {l : List (Int × Int)}, shUp ps k = some l → ∀ x ∈ l, inSide x
  | 0, l, h => by simp only [shUp, Option.some.injEq] at h; subst h; intro x hx; cases hx
  | k + 1, l, h => by
    simp only [shUp] at h
    split at h
    · rename_i l' e
      split at h
      · split at h
        · rename_i hs
          cases h
          intro x hx
          rcases List.mem_append.1 hx with hx | hx
          · exact shUp_in e x hx
          · rw [List.mem_singleton.1 hx]; exact opShape_in (shUp_in e) hs
        · cases h
      · cases h
    · cases h
theorem vShapes_some {ps : List TpP} {l : List (Int × Int)} (h : vShapes ps = some l) : l.length ≤ 48 ∧ 1 ≤ l.length ∧ l.length = ps.length ∧ ∀ x ∈ l, inSide x := by
  unfold vShapes at h
  split at h
  · rename_i hb
    simp only [Bool.and_eq_true, decide_eq_true_eq] at hb
    have := shUp_len h
    exact ⟨by omega, by omega, this, shUp_in h⟩
  · cases h
theorem shapesL_cnt (l : List (Int × Int)) : cntZI (shapesL l) = 2 * l.length := by
  unfold cntZI shapesL
  induction l with
  | nil => rfl
  | cons a l ih => simp only [List.map_cons, List.sum_cons, List.length_cons, List.length_nil] at ih ⊢; omega
theorem vShapesOf_len (ps : List TpP) : (vShapesOf ps).2.length + cntZI (vShapesOf ps).2 ≤ 1048576 := by
  unfold vShapesOf
  cases h : vShapes ps with
  | none => simp [cntZI]
  | some l =>
    have := vShapes_some h
    simp only [shapesL_cnt]
    simp only [shapesL, List.length_map]
    omega
theorem vShapesOf_wf (ps : List TpP) : wfZ (vShapesOf ps).2 := by
  unfold vShapesOf
  cases h : vShapes ps with
  | none => intro z hz; cases hz
  | some l =>
    intro z hz y hy
    obtain ⟨s, hs, rfl⟩ := List.mem_map.1 hz
    have hi := (vShapes_some h).2.2.2 s hs
    have : 1 ≤ y ∧ y ≤ 16 := by
      simp only [List.mem_cons, List.not_mem_nil, or_false] at hy
      rcases hy with rfl | rfl
      · exact hi.1
      · exact hi.2
    obtain ⟨m, rfl⟩ := Int.eq_ofNat_of_zero_le (show 0 ≤ y by omega)
    exact wf_small (by omega)
theorem info_ilT : (Try.prog.info? 35).map (fun i => (i.zero, i.size, i.bytes)) = some (some (.slice none 0 0), 1, 24) := by kernel_rfl
theorem il_readsT {w1 : World} {v : Value} : Reads (w1.alloc (.cells #[v] 35)) (w1.heap.size + 1) 1 (some ⟨w1.heap.size, 0, none⟩) 1 [v] := by
  refine ⟨rfl, fun _ => ⟨_, rfl, by simp, fun j u hu => ?_⟩⟩
  rw [add_plain]
  have := (Blk.new w1 35 #[v]).cell (0 + j)
  rw [this, Nat.zero_add]
  simpa using hu
theorem il_oneT (a : Option Addr) (n c : Nat) : ∀ u ∈ [Value.slice a n c], u.oneCell' = true := by intro u hu; simp at hu; subst hu; rfl
def SpsRel (l : List (Int × Int)) (w : World) (ov kv : Value) (wr : World) : Prop :=
  ∃ (k : Nat) (ys : List IlA) (q : Option Addr) (cp : Nat), k ≤ l.length ∧ kv = .int .i64 k ∧ ov = .slice q ys.length cp ∧ ys.map IlA.z = shapesL (l.take k) ∧
    wr.ownsRow w.heap.size 35 1 (.slice q ys.length cp) ys.length (ys.map IlA.v) ∧ OwnL wr w.heap.size (ilC ys) ∧ (blL [.sl 35 1 ys.length q cp (ilC ys)]).Nodup ∧ Below w.heap.size w wr
theorem shapesL_take {l : List (Int × Int)} {k : Nat} {x y : Int} (hk : k < l.length) (e : l.getD k (0, 0) = (x, y)) : shapesL (l.take (k + 1)) = shapesL (l.take k) ++ [[x, y]] := by
  have e2 : l[k]? = some (x, y) := by
    rw [List.getD_eq_getElem?_getD, List.getElem?_eq_getElem hk] at e
    rw [List.getElem?_eq_getElem hk]
    exact congrArg some e
  unfold shapesL
  rw [List.take_add_one, e2]
  simp
theorem sps_row {wr : World} {B m n cp : Nat} {q : Option Addr} {o1 o2 : Obj} {xs : List Value} (ho : wr.ownsRow B 35 1 (.slice q n cp) n xs) : (((wr.drewN m).alloc o1).alloc o2).ownsRow B 35 1 (.slice q n cp) n xs :=
  row_kept ho (((below_drewN (Below.refl _ _) m).alloc (Nat.le_refl _) o1).alloc (by simp) o2)
theorem sps_reads {wr : World} {m : Nat} {o1 : Obj} {v : Value} : Reads (((wr.drewN m).alloc o1).alloc (.cells #[v] 35)) (wr.heap.size + 1 + 1) 1 (some ⟨wr.heap.size + 1, 0, none⟩) 1 [v] := by
  have h := il_readsT (w1 := (wr.drewN m).alloc o1) (v := v)
  simpa only [World.size_alloc, World.drewN] using h
theorem sps_base {wr : World} {B m : Nat} {o1 o2 : Obj} (h : B ≤ wr.heap.size) : B ≤ (((wr.drewN m).alloc o1).alloc o2).heap.size := by
  simp only [World.size_alloc]
  exact Nat.le_trans h (Nat.le_trans (Nat.le_succ _) (Nat.le_succ _))
theorem sps_cl (wr : World) (m : Nat) (a b : Int) : OwnL ((wr.drewN m).alloc (.cells #[.int .i64 a, .int .i64 b] 2)) wr.heap.size [IlA.cl ⟨[a, b], some ⟨wr.heap.size, 0, none⟩, 2⟩] := rowW_cl (wr.drewN m) a b
theorem sps_below (wr : World) (m : Nat) (o : Obj) : Below wr.heap.size wr ((wr.drewN m).alloc o) := (below_drewN (Below.refl _ _) m).alloc (Nat.le_refl _) o
set_option maxRecDepth 20000 in
set_option maxHeartbeats 4000000 in
theorem t_sShapesOf (ps : List TpP) (n : Nat) (g : Option Addr) (cap : Nat) (ls : List TpA) (w : World) (hp : ls.map TpA.p = ps) (h : TpsAt w g n cap ls) :
    Calls Try.prog 12 #[.slice g n cap] w (RetIl (vShapesOf ps).1 (vShapesOf ps).2 w) := by
  obtain rfl : ls.length = n := h.1
  have C := Lib.hid (c_l04Shapes g cap ls w h)
  rw [hp] at C
  obtain ⟨i0, hi, hz0, hz1, hz2⟩ := info_parts info_ilT
  have HI := Lib.hid hi
  have HZ0 := Lib.hid hz0
  have HZ1 := Lib.hid hz1
  have HZ2 := Lib.hid hz2
  clear h hi hz0 hz1 hz2
  cases hv : vShapes ps with
  | none =>
    rw [hv] at C
    rw [show vShapesOf ps = (false, []) by simp [vShapesOf, hv]]
    clear hv
    go_enter Try.func12, Try.ntmps12
    go_wp2_with (go_at_call 35; refine C.out.mono ?_; rintro e w' ⟨a, m, c, rfl, b⟩; have B := Lib.hid b; clear b)
    go_ret2
    exact retIl_no B.out
  | some l =>
    rw [hv] at C
    rw [show vShapesOf ps = (true, shapesL l) by simp [vShapesOf, hv]]
    have HL := Lib.hid (vShapes_some hv)
    clear hv
    go_enter Try.func12, Try.ntmps12
    go_wp2_with (go_at_call 35; refine C.out.mono ?_; rintro e w1 ⟨a, c, rfl, ho, b⟩; have B := Lib.hid b; have HO := Lib.hid ho; clear b ho)
    obtain ⟨K, hK⟩ : ∃ K, l.length = K := ⟨_, rfl⟩
    have HK := Lib.hid hK
    have h48 : (K : Int) ≤ 48 := by have := HL.out.1; omega
    have h1 : 1 ≤ K := by have := HL.out.2.1; omega
    rw [hK] at HO ⊢
    clear hK
    obtain ⟨ga, rfl, _, _, _⟩ := row3_at HO.out h1 HK.out
    go_loopw [6, 7] (fun ov kv wr => SpsRel l w1 ov kv wr) (fun _ kv _ => K - (intOf kv).toNat)
    case atStart => exact ⟨0, [], some ⟨w1.heap.size, 0, none⟩, 0, Nat.zero_le _, rfl, rfl, by simp [shapesL], World.ownsRow_made (size := 1) w1 #[] 0 (Nat.le_refl _) (by unfold maxLen; omega) rfl, by simp [ilC, OwnL], by simp [blL, Cl.bl, ilC, blk], (Below.refl _ _).alloc (Nat.le_refl _) _⟩
    case round =>
      obtain ⟨k, ys, q, cp, hk, rfl, rfl, hyz, ho, hx, hnd, hb⟩ := hrel
      rw [HK.out] at hk
      have HYZ := Lib.hid hyz
      have HO1 := Lib.hid ho
      have HX := Lib.hid hx
      have HND := Lib.hid hnd
      have HB := Lib.hid hb
      have hyl : ys.length = k := by have := congrArg List.length hyz; simp only [List.length_map, shapesL, List.length_take] at this; have := HK.out; omega
      have hk48 : k ≤ 48 := by omega
      have A1 := Lib.hid (show ys.length + 1 ≤ maxLen by unfold maxLen; omega)
      have A2 := Lib.hid (show (ys.length + 1) * 24 ≤ 140737488355328 by omega)
      clear hyz ho hx hnd hb hyl
      by_cases hlt : k < K
      · have hlt' : (k : Int) < (K : Int) := by omega
        obtain ⟨⟨x, y⟩, hxy⟩ : ∃ s, l.getD k (0, 0) = s := ⟨_, rfl⟩
        obtain ⟨c1, c2, _⟩ := row3_cell (row_kept HO.out HB.out) HK.out hlt hxy
        have HXY := Lib.hid hxy
        clear hxy
        go_wp2_with fail
        go_region_law (refine step_append_any _ rfl (.tmp 22) (.tmp 34) 29 rfl w1.heap.size 35 i0 (.slice none 0 0) 1 24 Try.underlying29 HI.out HZ0.out HZ1.out HZ2.out rfl Nat.one_pos (.slice q ys.length cp) ys.length (ys.map IlA.v) rfl (sps_row HO1.out) (wr.heap.size + 1 + 1) (some ⟨wr.heap.size + 1, 0, none⟩) 1 1 [.slice (some ⟨wr.heap.size, 0, none⟩) 2 2] rfl sps_reads (il_oneT _ _ _) A1.out A2.out (sps_base HB.out.size) ?_; intro v' w' hown hgr hat; obtain ⟨a', c', rfl⟩ := ownsRow_slice hown; have HMD := Lib.hid (il_next (x := ⟨[x, y], some ⟨wr.heap.size, 0, none⟩, 2⟩) HO1.out HX.out HND.out (sps_below wr _ (.cells #[.int .i64 x, .int .i64 y] 2)) (sps_cl wr _ x y) (rowW_nd _ _ _) HB.out.size hown hgr hat); clear hown hgr hat)
        all_goals
          go_wp2_with fail
          go_roundw
          case rel =>
            obtain ⟨m1, m2, m3, m4⟩ := HMD.out
            refine ⟨k + 1, ys ++ [⟨[x, y], some ⟨wr.heap.size, 0, none⟩, 2⟩], a', c', by rw [HK.out]; omega, by go_num, by simp, ?_, m1, m2, m3, HB.out.trans m4⟩
            rw [List.map_append, HYZ.out, shapesL_take (by rw [HK.out]; exact hlt) HXY.out]
            rfl
          case measure => simp [intOf]; omega
      · have hlt' : ¬ (k : Int) < (K : Int) := by omega
        obtain rfl : k = K := by omega
        go_wp2_with fail
        go_ret2
        have e := HYZ.out
        rw [List.take_of_length_le (by have := HK.out; omega)] at e
        refine ⟨q, cp, ys, rfl, ?_, HND.out, e, Below.next B.out HB.out⟩
        refine OwnL.base B.out.size _ ?_
        simp only [OwnL, Cl.Own, and_true, vs_ilC]
        exact ⟨HO1.out, HX.out⟩
theorem store1T {w : World} {B : Nat} {t : TypeId} {n cap g k : Nat} {xs : List Value} {v0 : Value} (h : w.ownsRow B t 1 (.slice (some ⟨g, 0, none⟩) n cap) n xs) (hk : k < n) :
    ∃ ys, (w.setCell ⟨g, k, none⟩ v0).ownsRow B t 1 (.slice (some ⟨g, 0, none⟩) n cap) n ys ∧ ys.take (k + 1) = xs.take k ++ [v0] := by
  have hl := h.1
  refine ⟨_, (h.stored k v0).1, ?_⟩
  rw [take_set_succ _ _ _ (by omega)]
def SpiRel (l : List (Int × Int)) (N : Nat) (w : World) (iv : Value) (wr : World) : Prop :=
  ∃ (k : Nat) (ys : List IlA) (cur : List Value), k ≤ N ∧ iv = .int .i64 k ∧ ys.length = k ∧ ys.map IlA.z = shapesL (l.take k) ∧ wr.ownsRow w.heap.size 35 1 (.slice (some ⟨w.heap.size, 0, none⟩) N N) N cur ∧
    cur.take k = ys.map IlA.v ∧ OwnL wr (w.heap.size + 1) (ilC ys) ∧ (blL (ilC ys)).Nodup ∧ Below w.heap.size w wr
theorem ilC_snocT (ys : List IlA) (y : IlA) : ilC (ys ++ [y]) = ilC ys ++ [y.cl] := by simp [ilC]
set_option maxRecDepth 20000 in
set_option maxHeartbeats 4000000 in
theorem t_iShapesOf (ps : List TpP) (n : Nat) (g : Option Addr) (cap : Nat) (ls : List TpA) (w : World) (hp : ls.map TpA.p = ps) (h : TpsAt w g n cap ls) :
    Calls Try.prog 13 #[.slice g n cap] w (RetIl (vShapesOf ps).1 (vShapesOf ps).2 w) := by
  obtain rfl : ls.length = n := h.1
  have C := Lib.hid (c_shapesOf g cap ls w h)
  rw [hp] at C
  obtain ⟨i0, hi, hz0, hz1, hz2⟩ := info_parts info_ilT
  have HI := Lib.hid hi
  have HZ0 := Lib.hid hz0
  have HZ1 := Lib.hid hz1
  have HZ2 := Lib.hid hz2
  clear h hi hz0 hz1 hz2
  cases hv : vShapes ps with
  | none =>
    rw [hv] at C
    rw [show vShapesOf ps = (false, []) by simp [vShapesOf, hv]]
    clear hv
    go_enter Try.func13, Try.ntmps13
    go_wp2_with (go_at_call 33; refine C.out.mono ?_; rintro e w' ⟨rfl, b⟩; have B := Lib.hid b; clear b)
    go_ret2
    exact retIl_no B.out
  | some l =>
    rw [hv] at C
    rw [show vShapesOf ps = (true, shapesL l) by simp [vShapesOf, hv]]
    have HL := Lib.hid (vShapes_some hv)
    clear hv
    go_enter Try.func13, Try.ntmps13
    go_wp2_with fail
    refine C.out.mono ?_
    rintro e w1 ⟨gs, rfl, ho, b⟩
    obtain ⟨N, hN⟩ : ∃ N, l.length = N := ⟨_, rfl⟩
    have HN := Lib.hid hN
    have h48 : N ≤ 48 := by have := HL.out.1; omega
    have h1 : 1 ≤ N := by have := HL.out.2.1; omega
    rw [hN] at ho ⊢
    have HO := Lib.hid ho
    have B := Lib.hid b
    clear hN ho b
    go_wp2_with (at_make; refine wpList_make_full _ rfl _ _ 29 rfl w1.heap.size 35 i0 (.slice none 0 0) 1 Try.underlying29 HI.out HZ0.out HZ1.out _ _ _ _ N rfl rfl rfl rfl ?c1 ?c2 ?c3 ?_)
    case c1 => rw [HZ2.out]; omega
    case c2 => unfold maxLen; omega
    case c3 => exact Nat.le_refl _
    intro w2 hown hgrow
    have hb1 : Below w1.heap.size w1 w2 := (Below.refl _ _).grown hgrow (Nat.le_refl _) (fun k h => by cases h)
    have HO1 := Lib.hid hown
    have HB1 := Lib.hid hb1
    clear hown hb1 hgrow
    go_wp2_with fail
    go_loopw [21] (fun iv wr => SpiRel l N w1 iv wr) (fun iv _ => N - (intOf iv).toNat)
    case atStart => exact ⟨0, [], _, Nat.zero_le _, rfl, rfl, by simp [shapesL], HO1.out, rfl, by simp [ilC, OwnL], by simp [ilC, blL], HB1.out⟩
    case round =>
      obtain ⟨k, ys, cur, hk, rfl, hyl, hyp, ho, htk, how, hnd, hb⟩ := hrel
      have HYL := Lib.hid hyl
      have HYP := Lib.hid hyp
      have HO' := Lib.hid ho
      have HT := Lib.hid htk
      have HW := Lib.hid how
      have HND := Lib.hid hnd
      have HB' := Lib.hid hb
      clear hyl hyp ho htk how hnd hb
      by_cases hlt : k < N
      · have hlt' : (k : Int) < (N : Int) := by omega
        have hrow := row_kept HO.out HB'.out
        obtain ⟨⟨x, y⟩, hxy⟩ : ∃ s, l.getD k (0, 0) = s := ⟨_, rfl⟩
        obtain ⟨g1, g2⟩ := shV_get (l := l) (n := N) (j := k) (by have := HN.out; omega) (by omega)
        rw [hxy] at g1 g2
        have HXY := Lib.hid hxy
        have q0 : wr.cell? ⟨gs, k * 2, none⟩ = some (.int .i64 x) := (hrow.cellAt (k * 2) (by omega)).trans g1
        have q1 : wr.cell? ⟨gs, k * 2 + 1, none⟩ = some (.int .i64 y) := (hrow.cellAt (k * 2 + 1) (by omega)).trans g2
        clear hrow g1 g2 hxy
        have bl2 := ((Below.refl wr.heap.size wr).alloc (Nat.le_refl _) (.cells #[.int .i64 x, .int .i64 y] 66)).alloc (by simp) (.cells #[.int .i64 x, .int .i64 y] 2)
        have ho2 := row_kept HO'.out bl2
        obtain ⟨z0, v0, y0⟩ := row_cell ho2 k (by omega)
        have O2 := Lib.hid ho2
        have oe := rowW_cl (wr.alloc (.cells #[.int .i64 x, .int .i64 y] 66)) x y
        rw [World.size_alloc] at oe
        have OO := Lib.hid (OwnL.base (show wr.heap.size ≤ _ by omega) _ oe)
        have BL := Lib.hid bl2
        clear ho2 oe bl2
        go_wp2_with fail
        clear z0 y0
        go_roundw
        case rel =>
          have hlt0 : w1.heap.size < wr.heap.size := (HO'.out.lt _ rfl).2
          obtain ⟨cur', hr, ht⟩ := store1T O2.out hlt (v0 := .slice (some ⟨wr.heap.size + 1, 0, none⟩) 2 2)
          have how2 : OwnL ((wr.alloc (.cells #[.int .i64 x, .int .i64 y] 66)).alloc (.cells #[.int .i64 x, .int .i64 y] 2)) (w1.heap.size + 1) (ilC (ys ++ [⟨[x, y], some ⟨wr.heap.size + 1, 0, none⟩, 2⟩])) := by
            rw [ilC_snocT, OwnL_append]
            exact ⟨OwnL.kept HW.out BL.out, OwnL.base (by omega) _ OO.out⟩
          refine ⟨k + 1, ys ++ [⟨[x, y], some ⟨wr.heap.size + 1, 0, none⟩, 2⟩], cur', by omega, by go_num, by simp [HYL.out], ?_, hr, ?_, how2.far (p := ⟨w1.heap.size, _, none⟩) (by simp) _, ?_,
            (HB'.out.trans (BL.out.mono HB'.out.size)).setCell (p := ⟨w1.heap.size, _, none⟩) (Nat.le_refl _) _⟩
          · rw [List.map_append, HYP.out, shapesL_take (by have := HN.out; omega) HXY.out]
            rfl
          · rw [ht, HT.out, List.map_append]
            rfl
          · rw [ilC_snocT, blL_append]
            refine List.nodup_append.2 ⟨HND.out, rowW_nd _ _ _, ?_⟩
            intro x hx y hy e
            subst e
            exact apart_new HW.out OO.out x hx hy
        case measure => simp [intOf]; omega
      · have hlt' : ¬ (k : Int) < (N : Int) := by omega
        obtain rfl : k = N := by omega
        go_wp2_with fail
        go_ret2
        have ho := HO'.out
        have hcur : cur = ys.map IlA.v := by
          rw [← HT.out, List.take_of_length_le (by have := ho.1; omega)]
        rw [hcur] at ho
        have hlt0 : w1.heap.size < wr.heap.size := (ho.lt _ rfl).2
        have e := HYP.out
        rw [List.take_of_length_le (by have := HN.out; omega)] at e
        refine ⟨some ⟨w1.heap.size, 0, none⟩, k, ys, ?_, ?_, ?_, e, Below.next B.out HB'.out⟩
        · rw [HYL.out]; rfl
        · refine OwnL.base B.out.size _ ?_
          simp only [OwnL, Cl.Own, and_true, vs_ilC]
          exact ⟨by rw [HYL.out]; exact ho, OwnL.base (by omega) _ HW.out⟩
        · simp only [blL, Cl.bl, List.append_nil]
          refine List.nodup_append.2 ⟨by simp [blk], HND.out, ?_⟩
          intro x hx y hy e
          have := (OwnL.lt _ HW.out y hy).1
          simp [blk] at hx
          omega
end Go.Proofs.Ytdgoladbkaldkaa
