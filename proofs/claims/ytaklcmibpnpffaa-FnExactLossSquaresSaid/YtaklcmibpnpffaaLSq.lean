/-
  The loss of squares: the same for the program and for its model. Conditions: the numbers can be read.
-/
import Derived.Test.YtaklcmibpnpffaaLoss
namespace Go.Proofs.Ytaklcmibpnpffaa
open Go.RowKit Go.Deep Go.WideShapes Go.ChangeShapes
set_option linter.unusedVariables false

def Psq (d : Nat) : Nat := cop .mul .f32 d d
def Ssq (d : Nat) : Nat := cop .mul .f32 1073741824 d
theorem canon_two : canon .f32 1073741824 = 1073741824 := by decide +kernel
def vLossSquares (z0 z1 : List Nat) : Nat × Bool × List Nat := vLoss Psq Ssq z0 z1
theorem vLossSquares_len (z0 z1 : List Nat) : (vLossSquares z0 z1).2.2.length ≤ 1048576 := vLoss_len _ _ _ _
theorem cdot_sq {ds : List Nat} {f : Nat → Nat} {n : Nat} (h : ds.map (canon .f32) = (List.range n).map f) : cdot ds ds = csum ((List.range n).map fun i => Psq (f i)) := by
  have e : ∀ (l : List Nat) (s : Nat), (l.zip l).foldl (fun s p => cop .add .f32 s (cop .mul .f32 (canon .f32 p.1) (canon .f32 p.2))) s = ((l.map (canon .f32)).map Psq).foldl (fun s z => cop .add .f32 s (canon .f32 z)) s := by
    intro l
    induction l with
    | nil => intro s; rfl
    | cons x l ih =>
      intro s
      simp only [List.zip_cons_cons, List.foldl_cons, List.map_cons]
      rw [ih]
      simp only [Psq, cop_canon]
  have h2 : (List.range n).map (fun i => Psq (f i)) = (ds.map (canon .f32)).map Psq := by rw [h, List.map_map]; rfl
  rw [h2]
  exact e ds 0
theorem x_squareRule (x : Nat) (w : World) : Calls Try.prog 74 (#[.float .f32 x] ++ #[]) w (RetP (Psq (canon .f32 x)) (Ssq (canon .f32 x)) w) := by
  show Calls Try.prog 74 #[.float .f32 x] w _
  go_enter Try.func74, Try.ntmps74
  go_wp2_with (go_at_call 57; refine (c_productOfTwo _ _ _).mono ?_; rintro e w' ⟨rfl, rfl⟩)
  go_ret2
  exact ⟨_, _, rfl, canon_fval _ _ _ _ _, by rw [canon_fval, canon_two]; rfl, fval_lt _ .f32 _ _ _, fval_lt _ .f32 _ _ _, below_drewN (Below.refl _ _) _⟩
theorem t_iLossSquares (z0 z1 : List Nat) (a0 a1 : Option Addr) (w : World) (h0 : IsFloats .f32 w a0 z0.length z0.length z0) (h1 : IsFloats .f32 w a1 z1.length z1.length z1) :
    Calls Try.prog 31 #[.slice a0 z0.length z0.length, .slice a1 z1.length z1.length] w (RetQ (vLossSquares z0 z1).1 (vLossSquares z0 z1).2.1 (vLossSquares z0 z1).2.2 w) := by
  have H0 := Lib.hid h0
  have H1 := Lib.hid h1
  clear h0 h1
  go_enter Try.func31, Try.ntmps31
  go_wp2_with fail
  refine (c_lossBy 74 #[] Psq Ssq _ _ _ _ z0 z1 _ H0.out H1.out (enters_of Try.func74 (by kernel_rfl) (by kernel_rfl)) (fun x wr _ _ => x_squareRule x wr)).mono ?_
  rintro e w' ⟨r, a, c, ys, hr, rfl, ho, he, hb⟩
  have HR := Lib.hid hr
  have HO := Lib.hid ho
  have HE := Lib.hid he
  have HB := Lib.hid hb
  clear hr ho he hb
  go_wp2_with fail
  refine bodyPost_ret (v := .tuple #[.float .f32 r, .slice a ys.length c, .bool (vLossSquares z0 z1).2.1]) (by simp [results, Try.results31]; rfl) rfl ?_
  exact ⟨r, a, c, ys, HR.out, rfl, HO.out, HE.out, HB.out⟩
set_option maxRecDepth 20000 in
set_option maxHeartbeats 4000000 in
theorem t_sLossSquares (z0 z1 : List Nat) (a0 a1 : Option Addr) (w : World) (h0 : IsFloats .f32 w a0 z0.length z0.length z0) (h1 : IsFloats .f32 w a1 z1.length z1.length z1) :
    Calls Try.prog 30 #[.slice a0 z0.length z0.length, .slice a1 z1.length z1.length] w (RetQ (vLossSquares z0 z1).1 (vLossSquares z0 z1).2.1 (vLossSquares z0 z1).2.2 w) := by
  have hm1 : z0.length ≤ 9223372036854775807 := by have := h0.2.1; unfold maxLen at this; exact this
  have hm2 : z1.length ≤ 9223372036854775807 := by have := h1.2.1; unfold maxLen at this; exact this
  have H0 := Lib.hid h0
  have H1 := Lib.hid h1
  clear h0 h1
  cases hok : okBoth z0.length z1.length with
  | false =>
    have HX := Lib.hid (show vLossSquares z0 z1 = (0, false, []) from vLoss_no hok)
    rw [HX.out]
    have HK := Lib.hid hok
    clear hok
    go_enter Try.func30, Try.ntmps30
    go_wp2_with (go_at_call 71; refine (c_l05Both _ _ _ _ _ _ _ hm1 hm2).mono ?_; rintro e w' ⟨rfl, rfl⟩; rw [HK.out])
    refine bodyPost_ret (v := .tuple #[.float .f32 0, .slice none 0 0, .bool false]) (by simp [results, Try.results30]) rfl ?_
    exact ⟨0, none, 0, [], by decide +kernel, rfl, nil_own _ _, rfl, Below.refl _ _⟩
  | true =>
    have HX := Lib.hid (show vLossSquares z0 z1 = _ from vLoss_yes hok)
    rw [HX.out]
    obtain ⟨y1, y2, y3⟩ := okBoth_yes hok
    have HK := Lib.hid hok
    rw [← y3] at H1 hm2 HK ⊢
    obtain ⟨n, hn⟩ : ∃ n, z0.length = n := ⟨_, rfl⟩
    rw [hn] at H0 H1 y1 y2 hm1 hm2 HK ⊢
    clear hok hn y3 HX
    go_enter Try.func30, Try.ntmps30
    go_wp2_with (go_at_call 71; refine (c_l05Both _ _ _ _ _ _ _ hm1 hm2).mono ?_; rintro e w' ⟨rfl, rfl⟩; rw [HK.out])
    refine (c_l05Less _ _ _ _ _ z0 z1 _ H0.out H1.out y2).mono ?_
    rintro e w1 ⟨a, c, ds, rfl, ho, he, hb⟩
    have hdn : ds.length = n := by have := congrArg List.length he; simpa using this
    have HO := Lib.hid ho
    have HE := Lib.hid he
    have HB := Lib.hid hb
    have HDN := Lib.hid hdn
    have hd0 : ds.length ≤ 256 := by omega
    clear ho he hb hdn
    go_wp2_with fail
    refine (c_l01Dot _ _ _ _ _ ds ds _ HO.out.isFloats HO.out.isFloats).mono ?_
    rintro e w2 ⟨r, d, hr, hr2, rfl, rfl⟩
    have HR := Lib.hid (hr.trans (cdot_sq HE.out))
    clear hr hr2
    go_wp2_with fail
    have HV := Lib.hid (show canon .f32 (fval .quo .f32 r (floatOfInt .f32 (n : Int)) (w1.drewN d)) = cop .quo .f32 (csum ((List.range n).map fun i => Psq (gapOf z0 z1 i))) (fN n) by rw [canon_fval, HR.out, canon_fN])
    obtain ⟨v, hv⟩ : ∃ v, fval .quo .f32 r (floatOfInt .f32 (n : Int)) (w1.drewN d) = v := ⟨_, rfl⟩
    rw [hv] at HV ⊢
    have HB2 := Lib.hid (show Below w.heap.size w (w1.drewN (d + fdr .quo .f32 r (floatOfInt .f32 (n : Int)))) from below_drewN HB.out _)
    have HO2 := Lib.hid (HO.out.drewN (d + fdr .quo .f32 r (floatOfInt .f32 (n : Int))))
    generalize w1.drewN (d + fdr .quo .f32 r (floatOfInt .f32 (n : Int))) = w3 at HB2 HO2 ⊢
    clear HB HO hv HR
    go_loopw [28] (fun i wr => UpdRel (fun i => cop .quo .f32 (Ssq (gapOf z0 z1 i)) (fN n)) ds w.heap.size a c w i wr) (fun i _ => ds.length - (intOf i).toNat)
    case atStart => exact upd_first HO2.out HB2.out
    case round =>
      obtain ⟨k, ys, hk, rfl, hy, ho, he, hb⟩ := hrel
      have HY := Lib.hid hy
      have HO := Lib.hid ho
      have HE3 := Lib.hid he
      have HB := Lib.hid hb
      have hk0 : (0 : Int) ≤ (k : Int) := by omega
      clear hy ho he hb HB2 HO2
      by_cases hlt : k < ds.length
      · have hlt' : (k : Int) < (ds.length : Int) := by omega
        obtain ⟨g, rfl, hg, hg2⟩ := own_some HO.out (by rw [upd_length hk HY.out]; omega)
        obtain ⟨hc, hf⟩ := own_cell (k := k) HO.out (by rw [upd_length hk HY.out]; omega)
        rw [upd_at HY.out] at hc
        have HC := Lib.hid (canon_getD HE.out (show k < n by rw [← HDN.out]; exact hlt))
        obtain ⟨x, hx⟩ : ∃ x, ds.getD k 0 = x := ⟨_, rfl⟩
        rw [hx] at hc HC
        clear hx
        go_wp2_with fail
        go_roundw
        case rel => exact upd_next hlt HY.out HO.out HE3.out HB.out (below_drewN (Below.refl _ _) _) HB.out.size (fval_lt .quo .f32 _ _ _) (by rw [canon_fval, canon_fval, HC.out, canon_two, canon_fN]; rfl)
        case measure => simp [intOf]; omega
      · obtain rfl : k = ds.length := by omega
        go_wp2_with fail
        refine bodyPost_ret (v := .tuple #[.float .f32 v, .slice a ds.length c, .bool true]) (by simp [results, Try.results30]) rfl ?_
        exact ⟨v, a, c, ys, HV.out, by rw [HY.out], upd_end HY.out HO.out, by rw [HE3.out, HDN.out], HB.out⟩
end Go.Proofs.Ytaklcmibpnpffaa
