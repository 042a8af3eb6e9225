/-
  The bytes of a state: the program's parts. Conditions: the state can be stored.
-/
import Derived.Test.YtpobdigmjfapbaaDoorSty
import Derived.Test.YtpobdigmjfapbaaDoorChi
import Derived.Test.YtpobdigmjfapbaaDoorAli
namespace Go.Proofs.YtpobdigmjfapbaaDoor
open Go.RowKit Go.Deep Go.WideShapes Go.ChangeShapes
set_option linter.unusedVariables false
attribute [local go_sem] World.drewN_zero

theorem wb_one (n : Nat) : wb n 1 = [u8 (n : Int)] := by simp [wb, u8]
def LyRel (vals : List Nat) (l : List UInt8) (w2 : World) (B b g : Nat) (LC : Array Value) (iv : Value) (wr : World) : Prop :=
  ∃ j : Nat, j ≤ 3 ∧ iv = .int .i64 j ∧ IsW wr B b (l ++ ((vals.map fun x : Nat => u8 (x : Int)).take j)) ∧ Blk wr g 105 LC ∧ Blk wr (g + 1) 2 (vals.map (fun x : Nat => Value.int .i64 (x : Int))).toArray ∧ Below B w2 wr
set_option maxRecDepth 20000 in
set_option maxHeartbeats 2000000 in
theorem c_wLayer (k i o : Nat) (a0 a1 : Option Addr) (c0 c1 : Nat) (ws bs : List Nat) (hk : k ≤ 255) (hi : i ≤ 255) (ho : o ≤ 255) (B b : Nat) (l : List UInt8) (w : World)
    (h0 : ∀ W, Below B w W → IsFloats .f32 W a0 ws.length c0 ws) (h1 : ∀ W, Below B w W → IsFloats .f32 W a1 bs.length c1 bs) (hw : ws.length ≤ 72) (hb : bs.length ≤ 72) (h : IsW w B b l) (hB : B ≤ w.heap.size) (hl : l.length ≤ 100000) :
    Calls Tryd.prog 64 #[.pointer (some ⟨b, 0, none⟩), .agg #[.int .i64 k, .int .i64 i, .int .i64 o, .slice a0 ws.length c0, .slice a1 bs.length c1]] w fun e w' => e = .returned (.tuple #[]) ∧ IsW w' B b (l ++ layB ⟨k, i, o, ws, bs⟩) ∧ Below B w w' := by
  have HL := Lib.hid hl
  have H0 := Lib.hid h0
  have H1 := Lib.hid h1
  have al := (Below.refl w.heap.size w).alloc (Nat.le_refl _) (.cells #[.int .i64 (k : Int), .int .i64 (i : Int), .int .i64 (o : Int), .slice a0 ws.length c0, .slice a1 bs.length c1] 105)
  have K1 := Lib.hid (Blk.new w 105 #[.int .i64 (k : Int), .int .i64 (i : Int), .int .i64 (o : Int), .slice a0 ws.length c0, .slice a1 bs.length c1])
  have I1 := Lib.hid (h.old al)
  have B1 := Lib.hid (al.mono hB)
  have hgb : b < w.heap.size := h.lt
  have HV := Lib.hid (show ∀ x ∈ [k, i, o], x ≤ 255 from fun x hx => by simp only [List.mem_cons, List.not_mem_nil, or_false] at hx; omega)
  have Z1 := Lib.hid (Nat.le_trans hB al.size)
  have k255 : (k : Int) ≤ 255 := by omega
  have i255 : (i : Int) ≤ 255 := by omega
  have o255 : (o : Int) ≤ 255 := by omega
  clear h al hB hl h0 h1
  have al2 := fun W => (Below.refl (World.heap W).size W).alloc (Nat.le_refl _) (.cells #[.int .i64 (k : Int), .int .i64 (i : Int), .int .i64 (o : Int)] 2)
  go_enter Tryd.func64, Tryd.ntmps64
  go_wp2_with fail
  generalize hw1 : w.alloc (.cells #[.int .i64 (k : Int), .int .i64 (i : Int), .int .i64 (o : Int), .slice a0 ws.length c0, .slice a1 bs.length c1] 105) = w1 at K1 I1 B1 Z1 ⊢
  have hz : w1.heap.size = w.heap.size + 1 := by rw [← hw1]; simp
  have I2 := Lib.hid (show IsW (w1.alloc (.cells #[.int .i64 (k : Int), .int .i64 (i : Int), .int .i64 (o : Int)] 2)) B b (l ++ ([u8 (k : Int), u8 (i : Int), u8 (o : Int)].take 0)) by simpa using I1.out.old (al2 w1))
  have K2 := Lib.hid (K1.out.below (al2 w1))
  have N2 := Lib.hid (Blk.new w1 2 #[.int .i64 (k : Int), .int .i64 (i : Int), .int .i64 (o : Int)])
  have B2 := Lib.hid (B1.out.trans ((al2 w1).mono Z1.out))
  have Z2 := Lib.hid (Nat.le_trans Z1.out (al2 w1).size)
  rw [hz] at N2
  clear al2 hw1 hz
  generalize w1.alloc (.cells #[.int .i64 (k : Int), .int .i64 (i : Int), .int .i64 (o : Int)] 2) = w2 at I2 K2 N2 B2 Z2 ⊢
  generalize w.heap.size = g at K2 N2 hgb ⊢
  go_loopw [14] (fun iv wr => LyRel [k, i, o] l w2 B b g #[.int .i64 (k : Int), .int .i64 (i : Int), .int .i64 (o : Int), .slice a0 ws.length c0, .slice a1 bs.length c1] iv wr) (fun iv _ => 3 - (intOf iv).toNat)
  case atStart => exact ⟨0, by omega, rfl, I2.out, K2.out, N2.out, Below.refl _ _⟩
  case round =>
    obtain ⟨j, hj, rfl, hi, hk1, hk2, hb1⟩ := hrel
    have HI := Lib.hid hi
    have HK := Lib.hid hk1
    have HN := Lib.hid hk2
    have HB := Lib.hid hb1
    have hj0 : (0 : Int) ≤ (j : Int) := by omega
    clear hi hk1 hk2 hb1
    by_cases hlt : j < 3
    · have hlt' : (j : Int) ≤ 2 := by omega
      obtain ⟨x, hx⟩ : ∃ x, [k, i, o][j]? = some x := ⟨_, List.getElem?_eq_getElem (by simpa using hlt)⟩
      have hx5 : x ≤ 255 := HV.out x (List.mem_of_getElem? hx)
      have hc : wr.cell? ⟨g + 1, j, none⟩ = some (.int .i64 (x : Int)) := by rw [HN.out.cell j, List.getElem?_toArray, List.getElem?_map, hx]; rfl
      have HS := Lib.hid (show l ++ (([k, i, o].map fun x : Nat => u8 (x : Int)).take (j + 1)) = (l ++ (([k, i, o].map fun x : Nat => u8 (x : Int)).take j)) ++ wb x 1 by
        rw [List.take_add_one, List.getElem?_map, hx, wb_one, List.append_assoc]; rfl)
      have hll : (l ++ (([k, i, o].map fun x : Nat => u8 (x : Int)).take j)).length ≤ 1000000 := by
        have h1 := HL.out
        have h2 : ((([k, i, o].map fun x : Nat => u8 (x : Int)).take j)).length ≤ 3 := Nat.le_trans (List.length_take_le _ _) (by omega)
        rw [List.length_append]
        omega
      obtain ⟨l2, hl2⟩ : ∃ z, l ++ (([k, i, o].map fun x : Nat => u8 (x : Int)).take j) = z := ⟨_, rfl⟩
      rw [hl2] at HI HS hll
      have HW := Lib.hid (c_integer x 1 (by omega) (by omega) B b l2 wr HI.out (Nat.le_trans Z2.out HB.out.size) hll)
      clear hx hl2 hll
      go_wp2_with fail
      refine HW.out.mono ?_
      rintro e w3 ⟨rfl, hi, hb, ho⟩
      have HI2 := Lib.hid hi
      have HB2 := Lib.hid (HB.out.trans hb)
      have HK2 := Lib.hid (HK.out.others ho (by omega) (by decide))
      have HN2 := Lib.hid (HN.out.others ho (by omega) (by decide))
      clear hi hb ho hc
      go_wp2_with fail
      go_roundw
      case rel => exact ⟨j + 1, hlt, by go_num, by rw [HS.out]; exact HI2.out, HK2.out, HN2.out, HB2.out⟩
      case measure => simp [intOf]; omega
    · obtain rfl : j = 3 := by omega
      have HI3 := Lib.hid (show IsW wr B b (l ++ [u8 (k : Int), u8 (i : Int), u8 (o : Int)]) from HI.out)
      have hl3 : (l ++ [u8 (k : Int), u8 (i : Int), u8 (o : Int)]).length ≤ 100003 := by have h1 := HL.out; rw [List.length_append]; simp; omega
      have HLB := Lib.hid (show ∀ P, l ++ [u8 (k : Int), u8 (i : Int), u8 (o : Int)] = P → l ++ layB ⟨k, i, o, ws, bs⟩ = (P ++ nb ws) ++ nb bs from fun P hP => by subst hP; simp [layB])
      obtain ⟨P, hP⟩ : ∃ P, l ++ [u8 (k : Int), u8 (i : Int), u8 (o : Int)] = P := ⟨_, rfl⟩
      have HLP := Lib.hid (HLB.out P hP)
      rw [hP] at HI3 hl3
      have Z3 := Lib.hid (Nat.le_trans Z2.out HB.out.size)
      have BW := Lib.hid (B2.out.trans HB.out)
      have HW := Lib.hid (c_wNumbers a0 c0 ws B b P wr (fun W hb _ => H0.out W (BW.out.trans hb)) (by omega) HI3.out Z3.out (by omega))
      clear hP HLB HI
      obtain ⟨p0, p1, p2, p3, p4, pl⟩ := tb5 HK.out
      go_wp2_with fail
      refine HW.out.mono ?_
      rintro e w3 ⟨rfl, hi, hb, ho⟩
      have HI4 := Lib.hid hi
      have B4 := Lib.hid (BW.out.trans hb)
      have Z4 := Lib.hid (Nat.le_trans Z3.out hb.size)
      have HK2 := Lib.hid (HK.out.others ho (by omega) (by decide))
      clear hi hb ho p0 p1 p2 p3 p4 pl
      obtain ⟨p0, p1, p2, p3, p4, pl⟩ := tb5 HK2.out
      have hl4 : (P ++ nb ws).length ≤ 500000 := by rw [List.length_append, nb_length]; omega
      have HW2 := Lib.hid (c_wNumbers a1 c1 bs B b (P ++ nb ws) w3 (fun W hb _ => H1.out W (B4.out.trans hb)) (by omega) HI4.out Z4.out hl4)
      go_wp2_with fail
      refine HW2.out.mono ?_
      rintro e w4 ⟨rfl, hi, hb, ho⟩
      have HI5 := Lib.hid hi
      have B5 := Lib.hid (B4.out.trans hb)
      clear hi hb ho p0 p1 p2 p3 p4 pl
      go_wp2_with fail
      go_end0
      exact ⟨rfl, by rw [HLP.out]; exact HI5.out, B5.out⟩
attribute [local go_sem] size_mk wb_length nb_length

set_option maxRecDepth 20000 in
set_option maxHeartbeats 2000000 in
theorem c_ending (q : TrsA) (hs : stbB q = true) (hc : q.sc < 2 ^ 32) (B b : Nat) (l : List UInt8) (w : World) (h : IsW w B b l) (hB : B ≤ w.heap.size) (hl : l.length ≤ 100000) :
    Calls Tryd.prog 65 #[.pointer (some ⟨b, 0, none⟩), .agg q.cells] w fun e w' => e = .returned (.string ⟨((l ++ endB q) ++ wb (checkN (l ++ endB q)) 4).toArray⟩) ∧ Below B w w' := by
  obtain ⟨⟨st', h1, h2⟩, ⟨sd', h3, h4⟩⟩ := stb_nums hs
  obtain ⟨g, c, ls, g', c', ss, st, sd, sc⟩ := q
  unfold TrsA.cells
  simp only [endB] at h1 h3 hc ⊢
  subst h1 h3
  have hz1 : ((st' : Nat) : Int).toNat = st' := Int.toNat_natCast _
  have hz2 : ((sd' : Nat) : Int).toNat = sd' := Int.toNat_natCast _
  rw [hz1, hz2]
  obtain ⟨n, hn⟩ : ∃ n, ls.length = n := ⟨_, rfl⟩
  obtain ⟨m, hm⟩ : ∃ m, ss.length = m := ⟨_, rfl⟩
  rw [hn, hm]
  have HC := Lib.hid hc
  have HL := Lib.hid hl
  have al := (Below.refl w.heap.size w).alloc (Nat.le_refl _) (.cells #[.slice g n c, .slice g' m c', .int .i64 (st' : Int), .int .i64 (sd' : Int), .float .f32 sc] 51)
  have K1 := Lib.hid (Blk.new w 51 #[.slice g n c, .slice g' m c', .int .i64 (st' : Int), .int .i64 (sd' : Int), .float .f32 sc])
  have I1 := h.old al
  have B1 := Lib.hid (al.mono hB)
  have Z1 := Nat.le_trans hB al.size
  have hgb : w.heap.size ≠ b := Nat.ne_of_gt h.lt
  have HE := Lib.hid (show ∀ Y, ((l ++ wb st' 8) ++ wb sd' 8) ++ nb [sc] = Y → l ++ ((wb st' 8 ++ wb sd' 8) ++ nb [sc]) = Y from fun Y hY => by subst hY; simp only [List.append_assoc])
  have HW1 := Lib.hid (c_integer st' 8 (by omega) (by omega) B b l _ I1 Z1 (by omega))
  have HW2 := Lib.hid (fun W hi hz => c_integer sd' 8 (by omega) (by omega) B b (l ++ wb st' 8) W hi hz (by rw [List.length_append, wb_length]; omega))
  have HW3 := Lib.hid (fun W a hf hi hz => c_wNumbers a 1 [sc] B b ((l ++ wb st' 8) ++ wb sd' 8) W hf (by simp) hi hz (by rw [List.length_append, List.length_append, wb_length, wb_length]; omega))
  have hLY := Lib.hid (show (((l ++ wb st' 8) ++ wb sd' 8) ++ nb [sc]).length ≤ 100100 by simp only [List.length_append, wb_length, nb_length, List.length_cons, List.length_nil]; omega)
  clear h hB hl hz1 hz2 hn hm hs h2 h4 hc al I1 Z1
  go_enter Tryd.func65, Tryd.ntmps65
  go_wp2_with fail
  refine HW1.out.mono ?_
  rintro e w2 ⟨rfl, hi, hb, ho⟩
  have I2 := Lib.hid hi
  have B2 := Lib.hid (B1.out.trans hb)
  have K2 := Lib.hid (K1.out.others ho hgb (by decide))
  have Z2 := Lib.hid (Nat.le_trans (Nat.le_of_lt hi.lt) (Nat.le_refl _))
  clear hi hb ho
  obtain ⟨p0, p1, p2, p3, p4, p5⟩ := tbt5 K2.out
  go_wp2_with fail
  clear p0 p1 p2 p3 p4 p5
  refine (HW2.out w2 I2.out (Nat.le_trans I2.out.base (Nat.le_of_lt I2.out.lt))).mono ?_
  rintro e w3 ⟨rfl, hi, hb, ho⟩
  have I3 := Lib.hid hi
  have B3 := Lib.hid (B2.out.trans hb)
  have K3 := Lib.hid (K2.out.others ho hgb (by decide))
  clear hi hb ho
  obtain ⟨p0, p1, p2, p3, p4, p5⟩ := tbt5 K3.out
  have HF := Lib.hid (Blk.new w3 31 #[.float .f32 sc])
  have al3 := Lib.hid ((Below.refl w3.heap.size w3).alloc (Nat.le_refl _) (.cells #[.float .f32 sc] 31))
  have hgb3 : w3.heap.size ≠ b := Nat.ne_of_gt I3.out.lt
  have hB3 : B ≤ w3.heap.size := Nat.le_trans I3.out.base (Nat.le_of_lt I3.out.lt)
  go_wp2_with fail
  clear p0 p1 p2 p3 p4 p5
  refine (HW3.out _ _ (fun W _ ho => flt_one (HF.out.others ho hgb3 (by decide)) HC.out) (I3.out.old al3.out) (Nat.le_trans hB3 al3.out.size)).mono ?_
  rintro e w4 ⟨rfl, hi, hb, ho⟩
  have B4 := Lib.hid ((B3.out.trans (al3.out.mono hB3)).trans hb)
  obtain ⟨Y, hY⟩ : ∃ Y, ((l ++ wb st' 8) ++ wb sd' 8) ++ nb [sc] = Y := ⟨_, rfl⟩
  have HEY := Lib.hid (HE.out Y hY)
  rw [hY] at hi hLY
  have I4 := Lib.hid hi
  have hY2 := hLY.out
  have hcn : checkN Y < 4294967296 := xor_lt32 (crcOf_lt Y) (by decide)
  clear hi hb ho hY
  go_wp2_with fail
  refine (c_BufString _ _ _ _ I4.out).mono ?_
  rintro e w5 ⟨rfl, k, rfl⟩
  have I5 := Lib.hid (I4.out.old (below_drewN (Below.refl _ _) k))
  have B5 := Lib.hid (below_drewN B4.out k)
  go_wp2_with fail
  refine (c_checkOfBytes ⟨Y.toArray⟩ (by rw [size_mk]; unfold maxLen; omega) _).mono ?_
  rintro e w6 ⟨rfl, bl⟩
  have I6 := Lib.hid (I5.out.old bl)
  have hB5 : B ≤ (w4.drewN k).heap.size := Nat.le_trans I5.out.base (Nat.le_of_lt I5.out.lt)
  have B6 := Lib.hid (B5.out.trans (bl.mono hB5))
  clear bl
  rw [show vCheck (⟨Y.toArray⟩ : ByteArray).data.toList = ((checkN Y : Nat) : Int) from rfl]
  go_wp2_with fail
  refine (c_integer (checkN Y) 4 (by omega) (by omega) B b Y w6 I6.out (Nat.le_trans I6.out.base (Nat.le_of_lt I6.out.lt)) (by omega)).mono ?_
  rintro e w7 ⟨rfl, hi, hb, ho⟩
  have I7 := Lib.hid hi
  have B7 := Lib.hid (B6.out.trans hb)
  clear hi hb ho
  go_wp2_with fail
  refine (c_BufString _ _ _ _ I7.out).mono ?_
  rintro e w8 ⟨rfl, k8, rfl⟩
  have B8 := Lib.hid (below_drewN B7.out k8)
  go_wp2_with fail
  go_ret
  exact ⟨by rw [HEY.out]; rfl, B8.out⟩
end Go.Proofs.YtpobdigmjfapbaaDoor
