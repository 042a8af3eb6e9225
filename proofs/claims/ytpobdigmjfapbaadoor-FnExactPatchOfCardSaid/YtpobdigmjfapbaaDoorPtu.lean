/-
  PatchOf: the bytes, the model and the program, and what they say of equal states. Conditions: the states can be read.
-/
import Derived.Test.YtpobdigmjfapbaaDoorStv
import Derived.Test.YtpobdigmjfapbaaDoorApp
import Derived.Test.YtpobdigmjfapbaaDoorStj
namespace Go.Proofs.YtpobdigmjfapbaaDoor
open Go.RowKit Go.Deep Go.WideShapes Go.ChangeShapes
set_option linter.unusedVariables false

def chOne (ys : List Nat) (i : Int) : List UInt8 := wb i.toNat 4 ++ nb [ys.getD i.toNat 0]
def chB (C : List Int) (ys : List Nat) (k : Nat) : List UInt8 := (C.take k).flatMap (chOne ys)
theorem chB_succ {C : List Int} {ys : List Nat} {k : Nat} {i : Int} (h : C[k]? = some i) : chB C ys (k + 1) = chB C ys k ++ chOne ys i := by
  unfold chB
  rw [List.take_add_one, h, List.flatMap_append]
  simp
theorem chOne_len (ys : List Nat) (i : Int) : (chOne ys i).length = 8 := by
  unfold chOne
  rw [List.length_append, wb_length, nb_length]
  rfl
theorem chB_len (C : List Int) (ys : List Nat) (k : Nat) : (chB C ys k).length ≤ 8 * k := by
  induction k with
  | zero => simp [chB]
  | succ k ih =>
    by_cases hk : k < C.length
    · have hx : C[k]? = some C[k] := List.getElem?_eq_getElem hk
      rw [chB_succ hx, List.length_append, chOne_len]
      omega
    · have e : chB C ys (k + 1) = chB C ys k := by unfold chB; rw [List.take_of_length_le (by omega), List.take_of_length_le (by omega)]
      rw [e]
      omega
def ptHead (S : List UInt8) (n : Nat) : List UInt8 := ([78, 78, 80, 49] ++ wb (checkN S) 4) ++ wb n 4
theorem ptHead_len (S : List UInt8) (n : Nat) : (ptHead S n).length = 12 := by simp [ptHead, wb_length]
def patchOn (S : List UInt8) (C : List Int) (ys : List Nat) (E : List UInt8) : List UInt8 :=
  ((ptHead S C.length ++ chB C ys C.length) ++ E) ++ wb (checkN ((ptHead S C.length ++ chB C ys C.length) ++ E)) 4
def patchB (q r : TrsA) : List UInt8 := patchOn (storeB q) (chgL (allN q) (allN r)) (allN r) (endB r)
def vPatchOf (q r : TrsA) : ByteArray × Bool := if fitTB q r = true then (⟨(patchB q r).toArray⟩, true) else (⟨#[]⟩, false)
theorem chg_mem {xs ys : List Nat} {i : Int} (h : i ∈ chgL xs ys) : ∃ m : Nat, i = m ∧ m < xs.length := by
  unfold chgL chgU at h
  obtain ⟨m, hm, rfl⟩ := List.mem_map.1 h
  exact ⟨m, rfl, List.mem_range.1 (List.mem_filter.1 hm).1⟩
theorem fit_both {q r : TrsA} (h : fitTB q r = true) : stbB q = true ∧ stbB r = true := by
  simp only [fitTB, Bool.and_eq_true] at h
  exact ⟨h.1, h.2.1⟩
theorem row_atW {w : World} {a : Option Addr} {n cap : Nat} {zs : List Int} (h : IsRow .i64 w a n cap zs) {i : Nat} (hi : i < n) : ∃ b off x, a = some ⟨b, off, none⟩ ∧ b < w.heap.size ∧ zs[i]? = some x ∧ w.cell? ⟨b, off + i, none⟩ = some (.int .i64 x) := by
  obtain ⟨_, _, h3, h4, h5⟩ := h
  rcases h5 with h0 | ⟨b, off, e, hb, hc⟩
  · omega
  · have hx : zs[i]? = some zs[i] := List.getElem?_eq_getElem (by omega)
    refine ⟨b, off, zs[i], e, hb, hx, ?_⟩
    rw [hc i hi, List.getD_eq_getElem?_getD, hx]
    rfl

set_option linter.unusedSimpArgs false
attribute [local go_sem] World.drewN_zero
attribute [local go_sem] size_mk wb_length nb_length

def PsRel (P : List UInt8) (C : List Int) (ys : List Nat) (n : Nat) (w : World) (s i : Value) (wr : World) : Prop := ∃ k : Nat, k ≤ n ∧ i = .int .i64 k ∧ s = .string ⟨(P ++ chB C ys k).toArray⟩ ∧ Below w.heap.size w wr
set_option maxRecDepth 20000 in
set_option maxHeartbeats 4000000 in
theorem c_l08Patch (G G' : Nat) (q q' : TrsA) (w : World) (h : TrsAt w q) (h' : TrsAt w q') (K : Blk w G 51 q.cells) (K' : Blk w G' 51 q'.cells) (hf : fitTB q q' = true) :
    Calls Tryd.prog 67 #[.pointer (some ⟨G, 0, none⟩), .pointer (some ⟨G', 0, none⟩)] w fun e w' => e = .returned (.string ⟨(patchB q q').toArray⟩) ∧ Below w.heap.size w w' := by
  obtain ⟨s1, s2⟩ := fit_both hf
  obtain ⟨l1, l2⟩ := fit_len hf
  have HA := Lib.hid (fun W (hb : Below w.heap.size w W) => c_l08All G q W (h.kept hb) (K.below hb) s1)
  have HA' := Lib.hid (fun W (hb : Below w.heap.size w W) => c_l08All G' q' W (h'.kept hb) (K'.below hb) s2)
  have HST := Lib.hid (fun W (hb : Below w.heap.size w W) => c_l08Store G q W (h.kept hb) (K.below hb) s1)
  have HE := Lib.hid (fun W (hb : Below w.heap.size w W) => c_l08End G' q' W (h'.kept hb) (K'.below hb) s2)
  have hsl := storeB_le s1
  have hel : (endB q').length ≤ 100 := by simp only [endB, List.length_append, wb_length, nb_length, List.length_cons, List.length_nil]; omega
  unfold patchB
  obtain ⟨X, hX⟩ : ∃ X, allN q = X := ⟨_, rfl⟩
  obtain ⟨Y, hY⟩ : ∃ X, allN q' = X := ⟨_, rfl⟩
  obtain ⟨S, hS⟩ : ∃ S, storeB q = S := ⟨_, rfl⟩
  obtain ⟨E, hE⟩ : ∃ E, endB q' = E := ⟨_, rfl⟩
  rw [hX] at HA l1 l2
  rw [hY] at HA' l1
  rw [hS] at HST hsl
  rw [hE] at HE hel
  rw [hX, hY, hS, hE]
  have hcl := chgU_le X Y X.length
  have HCM := Lib.hid (show ∀ i ∈ chgL X Y, ∃ m : Nat, i = m ∧ m < Y.length from fun i hi => by
    obtain ⟨m, e, hm⟩ := chg_mem hi
    exact ⟨m, e, by omega⟩)
  rw [show chgU X Y X.length = chgL X Y from rfl] at hcl
  obtain ⟨n, hn⟩ : ∃ n, (chgL X Y).length = n := ⟨_, rfl⟩
  have hn4 : n ≤ 2160 := by omega
  have hn4' : (n : Int) ≤ 2160 := by omega
  have HN := Lib.hid hn
  obtain ⟨yn, hyn⟩ : ∃ n, Y.length = n := ⟨_, rfl⟩
  have hy4 : (yn : Int) ≤ 2160 := by omega
  have hy4n : yn ≤ 2160 := by omega
  have HCH := Lib.hid (fun a b ca cb W (ha : IsFloats .f32 W a X.length ca X) (hb : IsFloats .f32 W b Y.length cb Y) => c_l08Changed a b ca cb X Y W ha hb l1 (by omega))
  rw [hyn] at HCM
  obtain ⟨C0, hC0⟩ : ∃ C, chgL X Y = C := ⟨_, rfl⟩
  rw [hC0] at HCH HN HCM ⊢
  have HPO := Lib.hid (show ∀ Z, ptHead S n ++ chB C0 Y n = Z → patchOn S C0 Y E = (Z ++ E) ++ wb (checkN (Z ++ E)) 4 from fun Z hZ => by
    subst hZ
    unfold patchOn
    rw [HN.out])
  have HYN := Lib.hid hyn
  have hcs : checkN S < 4294967296 := xor_lt32 (crcOf_lt S) (by decide)
  have B0 := Lib.hid (Below.refl w.heap.size w)
  have HW1 := Lib.hid (fun W => c_l08Word (checkN S) 4 (by omega) (by omega) W)
  have HW2 := Lib.hid (fun W => c_l08Word n 4 (by omega) (by omega) W)
  clear h h' K K' hf s1 s2 l1 l2 hX hY hS hE hcl hn hyn hC0
  go_enter Tryd.func67, Tryd.ntmps67
  go_wp2_with fail
  refine (HA'.out _ B0.out).mono ?_
  rintro e w2 ⟨ay, cy, rfl, ho, hb⟩
  have B2 := Lib.hid hb
  have HOY := Lib.hid ho.isFloats
  have hcy := ho.cap_ok
  clear hb ho
  go_wp2_with fail
  refine (HA.out _ B2.out).mono ?_
  rintro e w3 ⟨ax, cx, rfl, ho, hb⟩
  have B3 := Lib.hid (Below.next B2.out hb)
  have HOX := Lib.hid ho.isFloats
  have HOY3 := Lib.hid (HOY.out.kept hb)
  clear hb ho
  go_wp2_with fail
  refine (HCH.out _ _ _ _ _ HOX.out HOY3.out).mono ?_
  rintro e w4 ⟨ac, cc, rfl, ho, hb⟩
  have B4 := Lib.hid (Below.next B3.out hb)
  have HYf := Lib.hid (show IsFloats .f32 w4 ay yn cy Y by have h := HOY3.out.kept hb; rw [HYN.out] at h; exact h)
  have HCr := Lib.hid (show IsRow .i64 w4 ac n cc C0 by have h := ho.isRow; rw [HN.out] at h; exact h)
  rw [HYN.out] at hcy
  rw [HYN.out, HN.out]
  clear hb ho
  go_wp2_with fail
  refine (HST.out _ B4.out).mono ?_
  rintro e w5 ⟨rfl, hb⟩
  have B5 := Lib.hid hb
  clear hb
  go_wp2_with fail
  refine (c_l08Check ⟨S.toArray⟩ (by rw [size_mk]; unfold maxLen; omega) _).mono ?_
  rintro e w6 ⟨rfl, rfl⟩
  rw [show vCheck (⟨S.toArray⟩ : ByteArray).data.toList = ((checkN S : Nat) : Int) from rfl]
  go_wp2_with fail
  refine (HW1.out _).mono ?_
  rintro e w7 ⟨rfl, hb⟩
  have B7 := Lib.hid (Below.next B5.out hb)
  clear hb
  go_wp2_with fail
  refine (HW2.out _).mono ?_
  rintro e w8 ⟨rfl, hb⟩
  have B8 := Lib.hid (Below.next B7.out hb)
  clear hb
  have HPL := Lib.hid (ptHead_len S n)
  go_wp2_with fail
  go_loopw [7, 8] (fun s i wr => PsRel (ptHead S n) C0 Y n w4 s i wr) (fun _ i _ => n - (intOf i).toNat)
  case atStart => exact ⟨0, Nat.zero_le _, rfl, by rw [ba_append, ba_append]; simp [ptHead, chB], B8.out⟩
  case round =>
    obtain ⟨j, hj, rfl, rfl, hb⟩ := hrel
    have HB := Lib.hid hb
    have hj0 : (0 : Int) ≤ (j : Int) := by omega
    have hLL : (ptHead S n ++ chB C0 Y j).length ≤ 17300 := by
      have h1 := chB_len C0 Y j
      have h2 := HPL.out
      rw [List.length_append]
      omega
    clear hb
    by_cases hlt : j < n
    · have hlt' : (j : Int) < (n : Int) := by omega
      obtain ⟨cb, co, x, rfl, hcb, hx, c1'⟩ := row_atW HCr.out hlt
      obtain ⟨m, rfl, hm⟩ := HCM.out x (List.mem_of_getElem? hx)
      obtain ⟨yb, yo, y, rfl, hyb, hy, c2', ly⟩ := flt_atW HYf.out hm
      have HS2 := Lib.hid (show ptHead S n ++ chB C0 Y (j + 1) = (ptHead S n ++ chB C0 Y j) ++ (wb m 4 ++ nb [y]) by
        rw [chB_succ hx, chOne, Int.toNat_natCast, List.getD_eq_getElem?_getD, hy, List.append_assoc]
        rfl)
      have hm' : (m : Int) < (yn : Int) := by omega
      have hm0 : (0 : Int) ≤ (m : Int) := by omega
      have hmc : (m : Int) + 1 ≤ (cy : Int) := by omega
      have hm1 : (0 : Int) ≤ (m : Int) + 1 := by omega
      have hwr : IntKind.i64.wrap ((m : Int) + 1) = (m : Int) + 1 := IntWalk.i64_in _ (by omega)
      obtain ⟨L, hL⟩ : ∃ L, ptHead S n ++ chB C0 Y j = L := ⟨_, rfl⟩
      rw [hL] at hLL HS2 ⊢
      have bl : Below wr.heap.size wr wr.drew := (Below.refl _ _).drew
      have BD := Lib.hid (Below.next HB.out bl)
      have HC1 := Lib.hid (fun W (hb : Below w4.heap.size w4 W) => (hb.cell (p := ⟨cb, co + j, none⟩) hcb).trans c1')
      have c1 := HC1.out wr HB.out
      have HWm := Lib.hid (fun W => c_l08Word m 4 (by omega) (by omega) W)
      have v4 : ((m : Int) + 1).toNat = m + 1 := by omega
      have hne : ¬ cy = m := by omega
      have hy1 : (Y.drop m).take 1 = [y] := by rw [List.take_one, List.head?_drop, hy]; rfl
      have hmx := hcy.2
      have HFb := Lib.hid (fun W (hb : Below w4.heap.size w4 W) => c_l08Bytes (some ⟨yb, yo + m, none⟩) (cy - m) [y] W (by
        have fP := (HYf.out.kept hb).part m (m + 1) (by omega) (by omega) (cy - m) (by omega) (by omega)
        rw [Nat.add_sub_cancel_left, hy1] at fP
        simpa [add_plain] using fP) (by simp))
      have t1 : ¬ 9223372036854775807 < L.length + 8 := by omega
      clear c1' c2' hx hy hL hcb hyb bl hy1 hmx
      go_wp2_with fail
      go_region_held3 (fun w' => w'.cell? ⟨cb, co + j, none⟩ = some (.int .i64 (m : Int))) (go_keep)
        (first
          | (go_at_call 71
             refine (HWm.out wr.drew).mono ?_
             rintro e w9 ⟨rfl, bl⟩
             have B9 := Lib.hid (Below.next BD.out bl)
             clear bl c1
             have c1 := HC1.out w9 B9.out)
          | (go_at_call 50
             refine (HFb.out w9 B9.out).mono ?_
             rintro e w10 ⟨rfl, bl⟩
             have B10 := Lib.hid (Below.next B9.out bl)
             clear bl c1
             have c1 := HC1.out w10 B10.out))
      all_goals
        go_wp2_with fail
        go_roundw
        case rel => exact ⟨j + 1, hlt, by go_num, by rw [HS2.out, ← ba_append, ← ba_append], B10.out⟩
        case measure => simp [intOf]; omega
    · obtain rfl : j = n := by omega
      have HPO1 := Lib.hid (HPO.out _ rfl)
      obtain ⟨Z, hZ⟩ : ∃ Z, ptHead S j ++ chB C0 Y j = Z := ⟨_, rfl⟩
      rw [hZ] at HPO1 hLL ⊢
      have t1 : ¬ 9223372036854775807 < Z.length + E.length := by omega
      clear hZ
      go_wp2_with fail
      refine (HE.out _ (Below.next B4.out HB.out)).mono ?_
      rintro e w9 ⟨rfl, bl⟩
      have B9 := Lib.hid (Below.next (Below.next B4.out HB.out) bl)
      clear bl
      go_wp2_with fail
      rw [ba_append]
      have hxe : (Z ++ E).length ≤ 20000 := by rw [List.length_append]; omega
      clear t1
      generalize Z ++ E = V at hxe HPO1 ⊢
      have t2 : ¬ 9223372036854775807 < V.length + 4 := by omega
      have hcn : checkN V < 4294967296 := xor_lt32 (crcOf_lt V) (by decide)
      refine (c_l08Check ⟨V.toArray⟩ (by rw [size_mk]; unfold maxLen; omega) _).mono ?_
      rintro e wz ⟨rfl, rfl⟩
      rw [show vCheck (⟨V.toArray⟩ : ByteArray).data.toList = ((checkN V : Nat) : Int) from rfl]
      go_wp2_with fail
      refine (c_l08Word (checkN V) 4 (by omega) (by omega) _).mono ?_
      rintro e w10 ⟨rfl, bl⟩
      have B10 := Lib.hid (Below.next B9.out bl)
      clear bl
      go_wp2_with fail
      go_ret
      exact ⟨ret_str ((ba_append V (wb (checkN V) 4)).trans (by rw [HPO1.out])), B10.out⟩


def PtRel (P : List UInt8) (C : List Int) (ys : List Nat) (n : Nat) (w : World) (B b : Nat) (iv : Value) (wr : World) : Prop := ∃ k : Nat, k ≤ n ∧ iv = .int .i64 k ∧ IsW wr B b (P ++ chB C ys k) ∧ Below B w wr
set_option maxRecDepth 20000 in
set_option maxHeartbeats 4000000 in
theorem t_iPatchOf (q q' : TrsA) (w : World) (h : TrsAt w q) (h' : TrsAt w q') : Calls Tryd.prog 31 #[.agg q.cells, .agg q'.cells] w (RetY (vPatchOf q q').1 (vPatchOf q q').2 w) := by
  obtain ⟨k1, k2, bb⟩ := two_boxesT w 51 q.cells q'.cells
  have HC := Lib.hid (fun W (hb : Below w.heap.size w W) => t_iChangedNumbers q q' W (h.kept hb) (h'.kept hb))
  have HS := Lib.hid (fun W (hb : Below w.heap.size w W) => t_iStoreTraining q W (h.kept hb))
  have HD := Lib.hid (fun W (hb : Below w.heap.size w W) hs => c_numbers q' W (h'.kept hb) hs)
  have HEN := Lib.hid (fun hs B b l W (hi : IsW W B b l) hB hl => c_ending q' hs h'.2.2 B b l W hi hB hl)
  obtain ⟨s, hs⟩ : ∃ s, fitTB q q' = s := ⟨_, rfl⟩
  have HV := show vChangedNumbers q q' = if s = true then (true, chgL (allN q) (allN q')) else (false, []) by rw [← hs]; rfl
  rw [HV] at HC
  have HSS := Lib.hid (show s = true → stbB q = true ∧ stbB q' = true from fun e => fit_both (hs.trans e))
  have HL := Lib.hid (show s = true → (allN q).length = (allN q').length ∧ (allN q).length ≤ 2160 from fun e => fit_len (hs.trans e))
  have HSL := Lib.hid (show s = true → (storeB q).length ≤ 30000 from fun e => storeB_le (fit_both (hs.trans e)).1)
  have HVS := Lib.hid (show s = true → vStoreTraining q = (⟨(storeB q).toArray⟩, true) from fun e => by unfold vStoreTraining; rw [if_pos (fit_both (hs.trans e)).1])
  unfold vPatchOf
  rw [hs]
  obtain ⟨X, hX⟩ : ∃ X, allN q = X := ⟨_, rfl⟩
  obtain ⟨Y, hY⟩ : ∃ X, allN q' = X := ⟨_, rfl⟩
  have HPB := Lib.hid (show patchB q q' = patchOn (storeB q) (chgL X Y) Y (endB q') by subst hX hY; rfl)
  rw [hY] at HD HC HL
  rw [hX] at HC HL
  obtain ⟨a0, a1, a2, a3, a4, a5, a6, a7, a8, ha⟩ := cells5 q
  obtain ⟨b0, b1, b2, b3, b4, b5, b6, b7, b8, hb⟩ := cells5 q'
  rw [ha, hb] at k1 k2 bb ⊢
  rw [ha] at HS
  rw [hb] at HD HEN
  rw [ha, hb] at HC
  have K1 := Lib.hid k1
  have K2 := Lib.hid k2
  have B := Lib.hid bb
  clear h h' k1 k2 bb HV hX hY ha hb hs
  cases s with
  | false =>
    rw [if_neg (by decide)] at HC
    rw [if_neg (by decide)]
    go_enter Tryd.func31, Tryd.ntmps31
    go_wp2_with fail
    refine (HC.out _ B.out).mono ?_
    rintro e w2 ⟨ac, cc, C, rfl, ho, hz, hb⟩
    have B2 := Lib.hid (Below.next B.out hb)
    clear hb ho hz
    go_wp2_with fail
    go_ret2
    exact ⟨rfl, B2.out⟩
  | true =>
    rw [if_pos rfl] at HC
    rw [if_pos rfl, HPB.out]
    obtain ⟨l1, l2⟩ := HL.out rfl
    have hsl := HSL.out rfl
    rw [HVS.out rfl] at HS
    obtain ⟨s1, s2⟩ := HSS.out rfl
    have HD2 := Lib.hid (fun W hb => HD.out W hb s2)
    have HEN2 := Lib.hid (HEN.out s2)
    have hcl := chgU_le X Y X.length
    have HCM := Lib.hid (show ∀ i ∈ chgL X Y, ∃ m : Nat, i = m ∧ m < Y.length from fun i hi => by
      obtain ⟨m, e, hm⟩ := chg_mem hi
      exact ⟨m, e, by omega⟩)
    rw [show chgU X Y X.length = chgL X Y from rfl] at hcl
    obtain ⟨n, hn⟩ : ∃ n, (chgL X Y).length = n := ⟨_, rfl⟩
    have hn4 : n ≤ 2160 := by omega
    have hn4' : (n : Int) ≤ 2160 := by omega
    have HN := Lib.hid hn
    obtain ⟨yn, hyn⟩ : ∃ n, Y.length = n := ⟨_, rfl⟩
    have hy4 : (yn : Int) ≤ 2160 := by omega
    rw [hyn] at HCM
    obtain ⟨C0, hC0⟩ : ∃ C, chgL X Y = C := ⟨_, rfl⟩
    rw [hC0] at HC HN HCM ⊢
    have HPO := Lib.hid (show ∀ E Z, ptHead (storeB q) n ++ chB C0 Y n = Z → patchOn (storeB q) C0 Y E = (Z ++ E) ++ wb (checkN (Z ++ E)) 4 from fun E Z hZ => by
      subst hZ
      unfold patchOn
      rw [HN.out])
    obtain ⟨S, hS⟩ : ∃ S, storeB q = S := ⟨_, rfl⟩
    rw [hS] at HS hsl HPO ⊢
    obtain ⟨E, hE⟩ : ∃ E, endB q' = E := ⟨_, rfl⟩
    rw [hE] at HEN2 ⊢
    have HYN := Lib.hid hyn
    have hcs : checkN S < 4294967296 := xor_lt32 (crcOf_lt S) (by decide)
    clear HSS HL HSL HVS HPB HD HEN s1 s2 hcl hn hC0 hS hE l1 l2 hyn
    go_enter Tryd.func31, Tryd.ntmps31
    go_wp2_with fail
    refine (HC.out _ B.out).mono ?_
    rintro e w2 ⟨ac, cc, C, rfl, ho, rfl, hb⟩
    rw [HN.out]
    have HOC := Lib.hid ho
    have B2 := Lib.hid (Below.next B.out hb)
    have K12 := Lib.hid (K1.out.below hb)
    have K22 := Lib.hid (K2.out.below hb)
    clear hb ho
    obtain ⟨p0, p1, p2, p3, p4, p5⟩ := tbt5 K12.out
    obtain ⟨q0, q1, q2, q3, q4, q5⟩ := tbt5 K22.out
    go_wp2_with fail
    clear p0 p1 p2 p3 p4 p5 q0 q1 q2 q3 q4 q5
    refine (HS.out _ B2.out).mono ?_
    rintro e w3 ⟨rfl, hb⟩
    have B3 := Lib.hid (Below.next B2.out hb)
    have HOC3 := Lib.hid (HOC.out.kept hb)
    have K23 := Lib.hid (K22.out.below hb)
    clear hb
    obtain ⟨q0, q1, q2, q3, q4, q5⟩ := tbt5 K23.out
    go_wp2_with fail
    clear q0 q1 q2 q3 q4 q5
    refine (HD2.out _ B3.out).mono ?_
    rintro e w4 ⟨ay, cy, rfl, ho, hb⟩
    rw [HYN.out]
    have B4 := Lib.hid (Below.next B3.out hb)
    have HOY := Lib.hid ho
    have HOC4 := Lib.hid (HOC3.out.kept hb)
    have K24 := Lib.hid (K23.out.below hb)
    have I0 := Lib.hid (isW_new w4)
    have al := (Below.refl w4.heap.size w4).alloc (Nat.le_refl _) (.cells #[.slice none 0 0, .int .i64 0, .int .i8 0] 75)
    have B0 := Lib.hid al
    have HCr := Lib.hid (show IsRow .i64 w4 ac n cc C by have h := HOC4.out.isRow; rw [HN.out] at h; exact h)
    have HYf := Lib.hid (show IsFloats .f32 w4 ay yn cy Y by have h := HOY.out.isFloats; rw [HYN.out] at h; exact h)
    have HW0 := Lib.hid (c_WriteString w4.heap.size w4.heap.size [] [78, 78, 80, 49] _ I0.out al.size (by simp))
    clear hb ho al
    go_wp2_with fail
    refine HW0.out.mono ?_
    rintro e w5 ⟨rfl, hi, hb, _⟩
    have I5 := Lib.hid hi
    have B5 := Lib.hid (B0.out.trans hb)
    clear hi hb
    go_wp2_with fail
    refine (c_checkOfBytes ⟨S.toArray⟩ (by rw [size_mk]; unfold maxLen; omega) _).mono ?_
    rintro e w6 ⟨rfl, bl⟩
    have I6 := Lib.hid (I5.out.old bl)
    have B6 := Lib.hid (B5.out.trans (bl.mono B5.out.size))
    clear bl
    rw [show vCheck (⟨S.toArray⟩ : ByteArray).data.toList = ((checkN S : Nat) : Int) from rfl]
    go_wp2_with fail
    refine (c_integer (checkN S) 4 (by omega) (by omega) w4.heap.size w4.heap.size _ w6 I6.out B6.out.size (by simp)).mono ?_
    rintro e w7 ⟨rfl, hi, hb, _⟩
    have I7 := Lib.hid hi
    have B7 := Lib.hid (B6.out.trans hb)
    clear hi hb
    go_wp2_with fail
    refine (c_integer n 4 (by omega) (by omega) w4.heap.size w4.heap.size _ w7 I7.out B7.out.size (by simp [wb_length])).mono ?_
    rintro e w8 ⟨rfl, hi, hb, _⟩
    have I8 := Lib.hid (show IsW w8 w4.heap.size w4.heap.size (ptHead S n ++ chB C Y 0) by simpa [ptHead, chB] using hi)
    have B8 := Lib.hid (B7.out.trans hb)
    have HPL := Lib.hid (ptHead_len S n)
    clear hi hb
    obtain ⟨P, hP⟩ : ∃ P, ptHead S n = P := ⟨_, rfl⟩
    rw [hP] at I8 HPO HPL
    clear hP
    go_wp2_with fail
    go_loopw [39] (fun iv wr => PtRel P C Y n w4 w4.heap.size w4.heap.size iv wr) (fun iv _ => n - (intOf iv).toNat)
    case atStart => exact ⟨0, Nat.zero_le _, rfl, I8.out, B8.out⟩
    case round =>
      obtain ⟨j, hj, rfl, hi, hb⟩ := hrel
      have HI := Lib.hid hi
      have HB := Lib.hid hb
      have hj0 : (0 : Int) ≤ (j : Int) := by omega
      have HXL := Lib.hid (show (P ++ chB C Y j).length ≤ 17300 by
        have h1 := chB_len C Y j
        have h2 := HPL.out
        rw [List.length_append]
        omega)
      clear hi hb
      by_cases hlt : j < n
      · have hlt' : (j : Int) < (n : Int) := by omega
        obtain ⟨cb, co, x, rfl, hcb, hx, c1'⟩ := row_atW HCr.out hlt
        obtain ⟨m, rfl, hm⟩ := HCM.out x (List.mem_of_getElem? hx)
        obtain ⟨yb, yo, y, rfl, hyb, hy, c2', ly⟩ := flt_atW HYf.out hm
        have c1 := (HB.out.cell (p := ⟨cb, co + j, none⟩) hcb).trans c1'
        have HC2 := Lib.hid (fun W (hb : Below w4.heap.size w4 W) => (hb.cell (p := ⟨yb, yo + m, none⟩) hyb).trans c2')
        have HS2 := Lib.hid (show P ++ chB C Y (j + 1) = ((P ++ chB C Y j) ++ wb m 4) ++ nb [y] by
          rw [chB_succ hx, chOne, Int.toNat_natCast, List.getD_eq_getElem?_getD, hy]
          simp only [List.append_assoc, Option.getD_some])
        have hm' : (m : Int) < (yn : Int) := by omega
        have hm0 : (0 : Int) ≤ (m : Int) := by omega
        obtain ⟨L, hL⟩ : ∃ L, P ++ chB C Y j = L := ⟨_, rfl⟩
        rw [hL] at HI HXL HS2
        have HW := Lib.hid (c_integer m 4 (by omega) (by omega) w4.heap.size w4.heap.size L wr HI.out HB.out.size (by have := HXL.out; omega))
        have HLY := Lib.hid ly
        clear c1' c2' hx hy hL hcb hyb ly
        go_wp2_with fail
        clear c1
        refine HW.out.mono ?_
        rintro e w9 ⟨rfl, hi, hb, _⟩
        have I9 := Lib.hid hi
        have B9 := Lib.hid (HB.out.trans hb)
        clear hi hb
        have c2 := HC2.out w9 B9.out
        have HF := Lib.hid (Blk.new w9 31 #[.float .f32 y])
        have al3 := Lib.hid ((Below.refl w9.heap.size w9).alloc (Nat.le_refl _) (.cells #[.float .f32 y] 31))
        have hgb3 : w9.heap.size ≠ w4.heap.size := Nat.ne_of_gt I9.out.lt
        have HW2 := Lib.hid (c_wNumbers (some ⟨w9.heap.size, 0, none⟩) 1 [y] w4.heap.size w4.heap.size (L ++ wb m 4) _ (fun W _ ho => flt_one (HF.out.others ho hgb3 (by decide)) HLY.out) (by simp) (I9.out.old al3.out) (Nat.le_trans B9.out.size al3.out.size) (by have := HXL.out; rw [List.length_append, wb_length]; omega))
        go_wp2_with fail
        clear c2
        refine HW2.out.mono ?_
        rintro e w10 ⟨rfl, hi, hb, _⟩
        have I10 := Lib.hid hi
        have B10 := Lib.hid ((B9.out.trans (al3.out.mono B9.out.size)).trans hb)
        clear hi hb
        go_wp2_with fail
        go_roundw
        case rel => exact ⟨j + 1, hlt, by go_num, by rw [HS2.out]; exact I10.out, B10.out⟩
        case measure => simp [intOf]; omega
      · obtain rfl : j = n := by omega
        have hPO := HPO.out E _ rfl
        have HW0 := HEN2.out w4.heap.size w4.heap.size _ wr HI.out HB.out.size (by have := HXL.out; omega)
        rw [← hPO] at HW0
        have HW := Lib.hid HW0
        have K25 := Lib.hid (K24.out.below HB.out)
        clear hPO HW0
        obtain ⟨q0, q1, q2, q3, q4, q5⟩ := tbt5 K25.out
        go_wp2_with fail
        clear q0 q1 q2 q3 q4 q5
        refine HW.out.mono ?_
        rintro e w11 ⟨rfl, hb⟩
        have B11 := Lib.hid (Below.next B4.out (HB.out.trans hb))
        clear hb
        go_wp2_with fail
        go_ret2
        exact ⟨rfl, B11.out⟩


theorem endB_of {r q : TrsA} (h : TrsEq r q) : endB r = endB q := by
  obtain ⟨_, _, c, d, e⟩ := h
  unfold endB
  rw [c, d, e]
theorem vPatchOf_of {q q' r r' : TrsA} (h : TrsEq q q') (h' : TrsEq r r') : vPatchOf q r = vPatchOf q' r' := by
  unfold vPatchOf patchB
  rw [fitTB_of h h', storeB_of h, allN_of h, allN_of h', endB_of h']
theorem t_sPatchOf (q q' : TrsA) (w : World) (h : TrsAt w q) (h' : TrsAt w q') : Calls Tryd.prog 30 #[.agg q.cells, .agg q'.cells] w (RetY (vPatchOf q q').1 (vPatchOf q q').2 w) := by
  obtain ⟨k1, k2, bb⟩ := two_boxesT w 51 q.cells q'.cells
  have HC := Lib.hid (fun W (hb : Below w.heap.size w W) k1 k2 => c_l08Fit w.heap.size (w.heap.size + 1) q q' W (h.kept hb) (h'.kept hb) k1 k2)
  have HD := Lib.hid (fun W (hb : Below w.heap.size w W) k1 k2 hs => c_l08Patch w.heap.size (w.heap.size + 1) q q' W (h.kept hb) (h'.kept hb) k1 k2 hs)
  unfold vPatchOf
  obtain ⟨s, hs⟩ : ∃ s, fitTB q q' = s := ⟨_, rfl⟩
  have HS := Lib.hid hs
  rw [hs] at HC ⊢
  obtain ⟨V, hV⟩ : ∃ V, patchB q q' = V := ⟨_, rfl⟩
  rw [hV] at HD ⊢
  obtain ⟨a0, a1, a2, a3, a4, a5, a6, a7, a8, ha⟩ := cells5 q
  obtain ⟨b0, b1, b2, b3, b4, b5, b6, b7, b8, hb⟩ := cells5 q'
  rw [ha, hb] at k1 k2 bb ⊢
  rw [ha, hb] at HC
  rw [ha, hb] at HD
  have K1 := Lib.hid k1
  have K2 := Lib.hid k2
  have B := Lib.hid bb
  clear h h' k1 k2 bb hs hV ha hb
  cases s with
  | false =>
    rw [if_neg (by decide)]
    go_enter Tryd.func30, Tryd.ntmps30
    go_wp2_with fail
    refine (HC.out _ B.out K1.out K2.out).mono ?_
    rintro e w2 ⟨rfl, hb⟩
    have B2 := Lib.hid (Below.next B.out hb)
    clear hb
    go_wp2_with fail
    go_ret2
    exact ⟨rfl, B2.out⟩
  | true =>
    rw [if_pos rfl]
    go_enter Tryd.func30, Tryd.ntmps30
    go_wp2_with fail
    refine (HC.out _ B.out K1.out K2.out).mono ?_
    rintro e w2 ⟨rfl, hb⟩
    have B2 := Lib.hid (Below.next B.out hb)
    have K12 := Lib.hid (K1.out.below hb)
    have K22 := Lib.hid (K2.out.below hb)
    clear hb
    go_wp2_with fail
    refine (HD.out _ B2.out K12.out K22.out HS.out).mono ?_
    rintro e w3 ⟨rfl, hb⟩
    have B3 := Lib.hid (Below.next B2.out hb)
    clear hb
    go_wp2_with fail
    go_ret2
    exact ⟨rfl, B3.out⟩
end Go.Proofs.YtpobdigmjfapbaaDoor
