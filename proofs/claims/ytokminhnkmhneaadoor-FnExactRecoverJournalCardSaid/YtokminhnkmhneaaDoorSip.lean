/-
  ReadList: the program's. Conditions: the text has at most 2 ^ 20 bytes; the tables and the errors are as their initialisers lay them.
-/
import Derived.Test.YtokminhnkmhneaaDoorSit
import Derived.Test.YtokminhnkmhneaaDoorRdp
import Derived.Test.YtokminhnkmhneaaDoorShs
namespace Go.Proofs.YtokminhnkmhneaaDoor
open Go.RowKit Go.Deep Go.WideShapes Go.ChangeShapes
set_option linter.unusedVariables false
set_option linter.unusedSimpArgs false

theorem indexB_of (x : ByteArray) (m : UInt8) : Lib.indexB x ⟨#[m]⟩ = Lib.indexByte x.data.toList m := by
  unfold Lib.indexB
  exact Lib.index_one _ _
theorem strB_of (x : ByteArray) : strB x.data.toList = x := by
  apply ByteArray.ext
  simp [strB]
theorem strB_cut1 (a b : List UInt8) (m : UInt8) : (strB (a ++ m :: b)).extract 0 (a.length + 0) = strB a :=
  extract_of (p := []) (by rw [strB_list, Nat.add_zero, List.nil_append]; exact List.take_left' rfl) rfl (by rw [strB_size]; simp)
theorem strB_cut2 (a b : List UInt8) (m : UInt8) : (strB (a ++ m :: b)).extract (a.length + 1) (strB (a ++ m :: b)).size = strB b :=
  extract_of (p := a ++ [m]) (by rw [strB_list, strB_size, List.take_of_length_le (Nat.le_refl _)]; simp) (by simp) (Nat.le_refl _)
/-- the library's split, against all parts -/
theorem split_parts (m : UInt8) : ∀ (k : Nat) (l : List UInt8), ((parts m l).length ≤ k + 1 → Lib.splitB ⟨#[m]⟩ 0 k (strB l) = (parts m l).map strB) ∧ (k + 1 < (parts m l).length → (Lib.splitB ⟨#[m]⟩ 0 k (strB l)).length = k + 1) := by
  intro k
  induction k with
  | zero =>
    intro l
    rw [Lib.splitB_zero]
    refine ⟨fun h => ?_, fun _ => rfl⟩
    by_cases hm : m ∈ l
    · obtain ⟨a, b, rfl, ha⟩ := first_of hm
      rw [parts_split b ha, List.length_cons] at h
      have := parts_len m b
      omega
    · rw [parts_none hm]
      rfl
  | succ k ih =>
    intro l
    by_cases hm : m ∈ l
    · obtain ⟨a, b, rfl, ha⟩ := first_of hm
      have hi : Lib.indexB (strB (a ++ m :: b)) ⟨#[m]⟩ = (a.length : Int) := by rw [indexB_of, strB_list, indexByte_at b ha]
      rw [Lib.splitB_hit _ _ _ _ a.length hi, parts_split b ha]
      have e1 := strB_cut1 a b m
      have e2 := strB_cut2 a b m
      have e3 : (⟨#[m]⟩ : ByteArray).size = 1 := rfl
      rw [e1, e3, e2]
      obtain ⟨i1, i2⟩ := ih b
      refine ⟨fun h => ?_, fun h => ?_⟩
      · rw [List.length_cons] at h
        rw [i1 (by omega)]
        rfl
      · rw [List.length_cons] at h ⊢
        rw [i2 (by omega)]
    · have hi : Lib.indexB (strB l) ⟨#[m]⟩ = -1 := by rw [indexB_of, strB_list, indexByte_not hm]
      rw [Lib.splitB_miss _ _ _ _ hi, parts_none hm]
      refine ⟨fun _ => rfl, fun h => ?_⟩
      have h' : k + 1 + 1 < 1 := h
      omega
theorem split_sizes (m : UInt8) : ∀ (k : Nat) (l : List UInt8), ∀ s ∈ Lib.splitB ⟨#[m]⟩ 0 k (strB l), s.size ≤ l.length := by
  intro k
  induction k with
  | zero =>
    intro l s hs
    rw [Lib.splitB_zero] at hs
    simp at hs
    subst hs
    rw [strB_size]
    exact Nat.le_refl _
  | succ k ih =>
    intro l s hs
    by_cases hm : m ∈ l
    · obtain ⟨a, b, rfl, ha⟩ := first_of hm
      have hi : Lib.indexB (strB (a ++ m :: b)) ⟨#[m]⟩ = (a.length : Int) := by rw [indexB_of, strB_list, indexByte_at b ha]
      rw [Lib.splitB_hit _ _ _ _ a.length hi] at hs
      have e1 := strB_cut1 a b m
      have e2 := strB_cut2 a b m
      have e3 : (⟨#[m]⟩ : ByteArray).size = 1 := rfl
      rw [e1, e3, e2] at hs
      rcases List.mem_cons.1 hs with rfl | hs
      · rw [strB_size, List.length_append]; omega
      · have := ih b s hs
        rw [List.length_append, List.length_cons]
        omega
    · have hi : Lib.indexB (strB l) ⟨#[m]⟩ = -1 := by rw [indexB_of, strB_list, indexByte_not hm]
      rw [Lib.splitB_miss _ _ _ _ hi] at hs
      simp at hs
      subst hs
      rw [strB_size]
      exact Nat.le_refl _
/-- the variable of the library's that the search reads holds some integer -/
def MaxOk (w : World) : Prop := ∃ m : Int, w.cell? ⟨8, 0, none⟩ = some (.int .i64 m)
theorem MaxOk.kept {w w' : World} (h : MaxOk w) (hb : Below w.heap.size w w') : MaxOk w' := by
  obtain ⟨m, h⟩ := h
  exact ⟨m, (hb.cell (p := ⟨_, 0, none⟩) (cell_block h)).trans h⟩
theorem max_ok {w : World} (h : w.ShapedOpen Tryd.prog) : MaxOk w := lays147.s1_3 w h
theorem c_SplitN (x : ByteArray) (n : Nat) (hx : x.size ≤ 1048576) (h1 : 1 ≤ n) (hn : n ≤ 1048576) (w : World) (hm : MaxOk w) : Calls Tryd.prog 110 #[.string x, .string ⟨#[44]⟩, .int .i64 n] w fun e w' =>
    ∃ a c ss, e = .returned (.slice a (List.length ss) c) ∧ IsStrs w' a ss.length c ss ∧ Below w.heap.size w w' ∧ (((parts 44 x.data.toList).length < n → ss = (parts 44 x.data.toList).map strB) ∧ (n ≤ (parts 44 x.data.toList).length → ss.length = n)) := by
  obtain ⟨m, hm⟩ := hm
  refine (Any.strings_SplitN { lays147 with } lays147.i9 x ⟨#[44]⟩ n m w (by omega) hm (by decide) h1 (by omega)).mono ?_
  rintro e w' ⟨rfl, rfl⟩
  obtain ⟨k, hk⟩ : ∃ k, min n (x.size + 1) - 1 = k := ⟨_, rfl⟩
  have hk1 : min n (x.size + 1) = k + 1 := by omega
  have hs := split_parts 44 k x.data.toList
  rw [strB_of] at hs
  have hpc := parts_count 44 x.data.toList
  have hxl : x.data.toList.length = x.size := Array.length_toList
  have hle := Lib.splitB_length_le ⟨#[44]⟩ 0 k x
  rw [hk, hk1]
  obtain ⟨ss, hss⟩ : ∃ ss, Lib.splitB ⟨#[44]⟩ 0 k x = ss := ⟨_, rfl⟩
  rw [hss] at hs hle ⊢
  refine ⟨some ⟨w.heap.size, 0, none⟩, k + 1, ss, rfl, ?_, (Below.refl _ _).alloc (Nat.le_refl _) _, fun h => hs.1 (by omega), fun h => ?_⟩
  · have hsz : ∀ s ∈ ss, s.size ≤ maxLen := fun s hs' => by
      have := split_sizes 44 k x.data.toList s (by rw [strB_of, hss]; exact hs')
      unfold maxLen
      omega
    refine ⟨rfl, hle, by unfold maxLen; omega, hsz, .inr ⟨w.heap.size, 0, rfl, by rw [World.size_alloc]; exact Nat.lt_succ_self _, fun i s hi => ?_⟩⟩
    have hb := (Blk.new w 9 (Lib.cellsOf ss (k + 1))).cell (0 + i)
    refine hb.trans ?_
    unfold Lib.cellsOf
    rw [Nat.zero_add, List.getElem?_toArray, List.getElem?_append_left (by simpa using (List.getElem?_eq_some_iff.1 hi).1), List.getElem?_map, hi]
    rfl
  · by_cases hq : (parts 44 x.data.toList).length ≤ k + 1
    · rw [hs.1 hq, List.length_map]
      omega
    · rw [hs.2 (by omega)]
      omega
def rdF (ps : List (List UInt8)) (i : Nat) : Int := mv (ps.getD i [])
theorem rdF_all (ps : List (List UInt8)) : (List.range ps.length).map (rdF ps) = ps.map mv := by
  apply List.ext_getElem (by simp)
  intro i h1 h2
  have hi : i < ps.length := by simpa using h1
  simp [rdF, List.getD, hi]
def SiRel (ps : List (List UInt8)) (n gd : Nat) (w : World) (i : Value) (wr : World) : Prop :=
  FunRelJ (rdF ps) n gd w i wr ∧ ∃ k : Nat, i = .int .i64 k ∧ (ps.take k).all okRD = true
set_option maxRecDepth 20000 in
set_option maxHeartbeats 4000000 in
theorem c_splitItems (x : ByteArray) (hx : x.size ≤ 1048576) (w : World) (ht : TabOk w) (he : ErrsOk w) (hm : MaxOk w) : Calls Tryd.prog 69 #[.string x, .int .i64 64, .func (.func 17) #[] #[]] w (RetI (vRL x.data.toList).1 (vRL x.data.toList).2 w) := by
  obtain ⟨i0, hi, hz0, hz1, hz2⟩ := info_parts info_j64
  have JI := Lib.hid hi
  have HZ0 := Lib.hid hz0
  have HZ1 := Lib.hid hz1
  have HZ2 := Lib.hid hz2
  have HSN := Lib.hid (c_SplitN x 65 hx (by omega) (by omega) w hm)
  have HXL := Lib.hid (show x.data.toList.length = x.size from Array.length_toList)
  have HRD := Lib.hid (fun p (hp : p ∈ parts 44 x.data.toList) W (hb : Below w.heap.size w W) => t_iReadDecimal (strB p) (by rw [strB_size]; have := parts_sizes hp; have h2 := (show x.data.toList.length = x.size from Array.length_toList); omega) W (ht.kept hb) (he.kept hb))
  clear hi hz0 hz1 hz2 ht he hm
  by_cases hno : x.data.toList = noneT
  · have HV := Lib.hid (vRL_none hno)
    have hxs : x = ⟨#[110, 111, 110, 101]⟩ := by
      apply ByteArray.ext
      apply Array.toList_inj.1
      exact hno
    rw [HV.out]
    clear hno hx HXL HRD HSN
    rw [hxs]
    clear hxs
    go_enter Tryd.func69, Tryd.ntmps69
    go_wp2_with fail
    go_ret2
    exact ⟨_, _, [], rfl, ⟨World.ownsRow_nil _ _ _ _, fun _ h => by cases h⟩, rfl, Below.refl _ _⟩
  · have HNO := Lib.hid hno
    have hnb : (x.toList == [110, 111, 110, 101]) = false := by rw [ByteArray.toList_eq, beq_eq_false_iff_ne]; exact hno
    clear hno
    obtain ⟨ps, hpsE⟩ : ∃ ps, parts 44 x.data.toList = ps := ⟨_, rfl⟩
    have HPE := Lib.hid hpsE
    rw [hpsE] at HSN HRD
    clear hpsE
    by_cases h64 : ps.length ≤ 64
    case neg =>
      have HV := Lib.hid (vRL_no HNO.out (okRL_long (by rw [HPE.out]; omega)))
      have HG := Lib.hid (show 65 ≤ ps.length by omega)
      clear h64
      go_enter Tryd.func69, Tryd.ntmps69
      go_wp2_with fail
      refine HSN.out.mono ?_
      rintro e w2 ⟨a, c, ss, rfl, _, hb, _, hl⟩
      have HB := Lib.hid hb
      have hsl := hl HG.out
      rw [hsl]
      clear hb hl hsl
      go_wp2_with fail
      go_ret2
      exact ⟨none, 0, [], by rw [HV.out]; rfl, ⟨World.ownsRow_nil _ _ _ _, fun _ h => by cases h⟩, by rw [HV.out], HB.out⟩
    case pos =>
      have H64 := Lib.hid h64
      clear h64
      go_enter Tryd.func69, Tryd.ntmps69
      go_wp2_with fail
      refine HSN.out.mono ?_
      rintro e w2 ⟨a, c, ss, rfl, hss, hb, hps, _⟩
      have B2 := Lib.hid hb
      obtain rfl := hps (by have := H64.out; omega)
      have HSS := Lib.hid hss
      rw [List.length_map] at HSS
      rw [List.length_map]
      obtain ⟨n, hn⟩ : ∃ n, ps.length = n := ⟨_, rfl⟩
      have HN := Lib.hid hn
      rw [hn] at HSS H64
      rw [hn]
      have hni : (n : Int) ≤ 64 := by have := H64.out; omega
      have hn0 : (0 : Int) ≤ (n : Int) := by omega
      have hng : ¬ (64 : Int) < (n : Int) := by omega
      have HC1 := Lib.hid (show 8 * n ≤ 281474976710656 by have := H64.out; omega)
      have HC2 := Lib.hid (show n ≤ maxLen by unfold maxLen; have := H64.out; omega)
      clear hb hss hps hn
      go_wp2_with (at_make; refine wpList_make_full _ rfl _ _ 36 rfl w2.heap.size 2 i0 (.int .i64 0) 1 Tryd.underlying36 JI.out HZ0.out HZ1.out _ _ _ _ n rfl rfl rfl rfl ?c1 ?c2 ?c3 ?_; rotate_left 3; intro w3 hown hgrow; refine Hid.out ?_)
      case c1 => rw [HZ2.out]; exact HC1.out
      case c2 => exact HC2.out
      case c3 => exact Nat.le_refl _
      refine Lib.hid ?_
      have B23 := Lib.hid (show Below w2.heap.size w2 w3 from (Below.refl _ _).grown hgrow (Nat.le_refl _) (fun k h => by cases h))
      rw [show (Value.int .i64 0).cells = #[Value.int .i64 0] from rfl, Nat.mul_one, toList_madeCells_one] at hown
      have HO := Lib.hid hown
      clear hown hgrow
      go_wp2_with fail
      go_loopw [29] (fun i wr => SiRel ps n w2.heap.size w2 i wr) (fun i _ => n - (intOf i).toNat)
      case atStart => exact ⟨⟨0, Nat.zero_le _, rfl, by simpa [partJ] using HO.out, B23.out⟩, 0, rfl, rfl⟩
      case round =>
        obtain ⟨⟨k, hk, rfl, ho, hb⟩, k', hk', hal⟩ := hrel
        obtain rfl : k = k' := by injection hk' with _ h; omega
        have HO' := Lib.hid ho
        have HL := Lib.hid hb
        have HA := Lib.hid hal
        have hk0 : (0 : Int) ≤ (k : Int) := by omega
        clear ho hb hal hk'
        by_cases hlt : k < n
        · have hlt' : (k : Int) < (n : Int) := by omega
          obtain ⟨b, off, x0, rfl, hbk, hx0, c1, _⟩ := (HSS.out.kept HL.out).one hlt
          obtain ⟨p, hp, rfl⟩ : ∃ p, ps[k]? = some p ∧ strB p = x0 := by
            rw [List.getElem?_map] at hx0
            obtain ⟨p, h1, h2⟩ := Option.map_eq_some_iff.1 hx0
            exact ⟨p, h1, h2⟩
          have HP := Lib.hid hp
          have HBW := Lib.hid (Below.next B2.out HL.out)
          have HCV := Lib.hid (HRD.out p (List.mem_of_getElem? hp) wr HBW.out)
          rw [strB_list] at HCV
          clear hx0 hp hbk
          cases hok : okRD p with
          | false =>
            have HV := Lib.hid (vRL_no HNO.out (okRL_bad (l := x.data.toList) (k := k) (p := p) (by rw [HPE.out]; exact HP.out) hok))
            rw [vRD_no hok] at HCV
            clear hok
            go_wp2_with fail
            refine HCV.out.mono ?_
            rintro e w4 ⟨rfl, hb⟩
            have B4 := Lib.hid (Below.next HBW.out hb)
            clear hb
            go_wp2_with fail
            go_ret2
            exact ⟨none, 0, [], by rw [HV.out]; rfl, ⟨World.ownsRow_nil _ _ _ _, fun _ h => by cases h⟩, by rw [HV.out], B4.out⟩
          | true =>
            have HAN := Lib.hid (okp_next HP.out HA.out hok)
            rw [vRD_yes hok] at HCV
            obtain ⟨v, hv⟩ : ∃ v, mv p = v := ⟨_, rfl⟩
            have hf : rdF ps k = v := by unfold rdF; rw [List.getD_eq_getElem?_getD, HP.out]; exact hv
            have HF := Lib.hid hf
            simp only [hv] at HCV
            clear hok hv hf
            go_wp2_with fail
            refine HCV.out.mono ?_
            rintro e w4 ⟨rfl, hb⟩
            have HS := Lib.hid (funJ_step (f := rdF ps) (Nat.le_refl _) hlt HO'.out HL.out hb)
            obtain ⟨hfz, v0, hv0⟩ := funJ_cell hlt HO'.out hb
            rw [HF.out] at HS
            clear hb
            go_wp2_with fail
            go_roundw
            case rel => exact ⟨HS.out, k + 1, by go_num, HAN.out⟩
            case measure => simp [intOf]; omega
        · obtain rfl : k = n := by omega
          have hall : ps.take k = ps := List.take_of_length_le (by rw [HN.out]; exact Nat.le_refl _)
          have hA := HA.out
          rw [hall] at hA
          have HV := Lib.hid (vRL_yes HNO.out (okRL_yes (by rw [HPE.out, HN.out]; exact H64.out) (by rw [HPE.out]; exact hA)))
          have HAL := Lib.hid (List.all_eq_true.1 hA)
          have HE := Lib.hid (funJ_end (f := rdF ps) (n := k) (w := w2) (gd := w2.heap.size) (fun i hi => mv_wf (HAL.out (ps.getD i []) (by
            rw [List.getD_eq_getElem?_getD, List.getElem?_eq_getElem (by rw [HN.out]; exact hi)]
            exact List.getElem_mem _))) HO'.out)
          have HRA := Lib.hid (rdF_all ps)
          rw [HN.out] at HRA
          have HBW := Lib.hid (Below.next B2.out HL.out)
          clear hall hA
          go_wp2_with fail
          go_ret2
          refine ⟨_, _, (List.range k).map (rdF ps), ?_, HE.out.base B2.out.size, ?_, HBW.out⟩
          · rw [HV.out, List.length_map, List.length_range]; rfl
          · rw [HV.out, HRA.out, HPE.out]
theorem t_iReadList (x : ByteArray) (hx : x.size ≤ 1048576) (w : World) (ht : TabOk w) (he : ErrsOk w) (hm : MaxOk w) : Calls Tryd.prog 31 #[.string x] w (RetI (vRL x.data.toList).1 (vRL x.data.toList).2 w) := by
  have H := Lib.hid (c_splitItems x hx w ht he hm)
  clear hx ht he hm
  go_enter Tryd.func31, Tryd.ntmps31
  go_wp2_with fail
  refine H.out.mono ?_
  rintro e w2 ⟨a, c, ys, rfl, ho, hy, hb⟩
  have HO := Lib.hid ho
  have HY := Lib.hid hy
  have HB := Lib.hid hb
  clear ho hy hb
  go_wp2_with fail
  go_ret2
  exact ⟨a, c, ys, rfl, HO.out, HY.out, HB.out⟩
theorem t_sReadList (x : ByteArray) (hx : x.size ≤ 1048576) (w : World) : Calls Tryd.prog 30 #[.string x] w (RetI (vRL x.data.toList).1 (vRL x.data.toList).2 w) := by
  have H := Lib.hid (c_l01Numbers x hx w)
  clear hx
  go_enter Tryd.func30, Tryd.ntmps30
  go_wp2_with fail
  refine H.out.mono ?_
  rintro e w2 ⟨a, c, ys, rfl, ho, hy, hb⟩
  have HO := Lib.hid ho
  have HY := Lib.hid hy
  have HB := Lib.hid hb
  clear ho hy hb
  go_wp2_with fail
  go_ret2
  exact ⟨a, c, ys, rfl, HO.out, HY.out, HB.out⟩
end Go.Proofs.YtokminhnkmhneaaDoor
