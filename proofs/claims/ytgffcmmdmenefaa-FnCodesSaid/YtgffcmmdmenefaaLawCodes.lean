/-
  FnCodes holds. No condition.
-/
import Derived.Test.YtgffcmmdmenefaaR8
import Derived.Test.YtgffcmmdmenefaaCfl
import Derived.Test.YtgffcmmdmenefaaRn
import Derived.ChangeOld
import Derived.Below
namespace Go.Proofs.Ytgffcmmdmenefaa.fnCodes
open Go.ChangeShapes Go.WideShapes Go.ChangeAt Go.RowKit
open Go.ChangeMaps (open_string shut_string)
set_option linter.unusedVariables false

theorem dotI_append {xs ys : List Int} (x y : Int) : ∀ k, k ≤ xs.length → k ≤ ys.length → dotI (xs ++ [x]) (ys ++ [y]) k = dotI xs ys k
  | 0, _, _ => rfl
  | k + 1, h1, h2 => by
    show dotI _ _ k + _ * _ = dotI xs ys k + _ * _
    rw [dotI_append x y k (by omega) (by omega)]
    have e1 : (xs ++ [x]).getD k 0 = xs.getD k 0 := by unfold List.getD; rw [List.getElem?_append_left (by omega)]
    have e2 : (ys ++ [y]).getD k 0 = ys.getD k 0 := by unfold List.getD; rw [List.getElem?_append_left (by omega)]
    rw [e1, e2]
theorem dotI_snoc {xs ys : List Int} {x y : Int} {k : Nat} (h1 : xs.length = k) (h2 : ys.length = k) : dotI (xs ++ [x]) (ys ++ [y]) (k + 1) = dotI xs ys k + x * y := by
  show dotI _ _ k + _ * _ = _
  rw [dotI_append x y k (by omega) (by omega)]
  have e1 : (xs ++ [x]).getD k 0 = x := by unfold List.getD; rw [List.getElem?_append_right (by omega)]; simp [h1]
  have e2 : (ys ++ [y]).getD k 0 = y := by unfold List.getD; rw [List.getElem?_append_right (by omega)]; simp [h2]
  rw [e1, e2]
theorem okCod_snoc {xs : List Int} {x : Int} (h : okCod xs = true) (hl : xs.length ≤ 200) (h1 : -127 ≤ x) (h2 : x ≤ 127) : okCod (xs ++ [x]) = true := by
  simp only [okCod, Bool.and_eq_true, decide_eq_true_eq, List.all_eq_true] at h ⊢
  refine ⟨by simp; omega, fun y hy => ?_⟩
  rcases List.mem_append.1 hy with hy | hy
  · exact h.2 y hy
  · simp at hy; subst hy; simp [isCod, h1, h2]
/-- one of two lists grows -/
theorem grow_two {B : Nat} {wr w' : World} {pa pb a' : Option Addr} {ca cb cp' : Nat} {v : Int} {xs ys : List Int} (ho : OwnI wr B pa ca xs) (hp : OwnI wr B pb cb ys) (hap : ∀ g, blk pa = some g → blk pb ≠ some g) (h1 : -127 ≤ v) (h2 : v ≤ 127) (hB : B ≤ wr.heap.size)
    (hown : w'.ownsRow B 2 1 (.slice a' (xs.length + 1) cp') (xs.length + 1) (xs.map toV ++ [.int .i64 v])) (hg : (wr.alloc (.cells #[.int .i64 v] 2)).grownBy w' (Value.ownBlock (.slice pa xs.length ca)))
    (hat : Value.ownBlock (.slice a' (xs.length + 1) cp') = Value.ownBlock (.slice pa xs.length ca) ∨ Value.ownBlock (.slice a' (xs.length + 1) cp') = some (wr.alloc (.cells #[.int .i64 v] 2)).heap.size) :
    OwnI w' B a' cp' (xs ++ [v]) ∧ OwnI w' B pb cb ys ∧ (∀ g, blk a' = some g → blk pb ≠ some g) ∧ Below B wr w' := by
  rw [ownBlock_slice, ownBlock_slice] at hat
  rw [ownBlock_slice] at hg
  have bw : Below wr.heap.size wr (wr.alloc (.cells #[.int .i64 v] 2)) := (Below.refl _ _).alloc (Nat.le_refl _) _
  refine ⟨⟨by simpa [toV] using hown, fun y hy => ?_⟩, (hp.kept bw).apart hg (fun g h1 h2 => hap g h2 h1), fun g h1 h2 => ?_, (bw.mono hB).grown hg (Nat.le_trans hB bw.size) (fun g h => (ho.lt g h).1)⟩
  · rcases List.mem_append.1 hy with h | h
    · exact ho.2 y h
    · simp at h; subst h; exact wf_128 (by omega)
  · rcases hat with e | e
    · exact hap g (e.symm.trans h1) h2
    · rw [h1] at e
      simp only [Option.some.injEq] at e
      have := (hp.lt g h2).2
      have := bw.size
      omega
def TwoRel (n : Nat) (W : World) (a b s i : Value) (wr : World) : Prop :=
  ∃ (k : Nat) (pa : Option Addr) (ca : Nat) (xs : List Int) (pb : Option Addr) (cb : Nat) (ys : List Int), k ≤ n ∧ a = .slice pa xs.length ca ∧ b = .slice pb ys.length cb ∧ s = .int .i64 (dotI xs ys k) ∧ i = .int .i64 k ∧ xs.length = k ∧ ys.length = k ∧
    okCod xs = true ∧ okCod ys = true ∧ OwnI wr W.heap.size pa ca xs ∧ OwnI wr W.heap.size pb cb ys ∧ (∀ g, blk pa = some g → blk pb ≠ some g) ∧ Below W.heap.size W wr
theorem two_first (n : Nat) (w : World) : TwoRel n w (.slice (some ⟨w.heap.size, 0, none⟩) 0 0) (.slice (some ⟨w.heap.size + 1, 0, none⟩) 0 0) (.int .i64 0) (.int .i64 0) ((w.alloc (.cells #[] 2)).alloc (.cells #[] 2)) := by
  have b1 : Below w.heap.size w (w.alloc (.cells #[] 2)) := (Below.refl _ _).alloc (Nat.le_refl _) _
  have s1 : (w.alloc (.cells #[] 2)).heap.size = w.heap.size + 1 := World.size_alloc _ _
  have b2 : Below (w.alloc (.cells #[] 2)).heap.size (w.alloc (.cells #[] 2)) ((w.alloc (.cells #[] 2)).alloc (.cells #[] 2)) := (Below.refl _ _).alloc (Nat.le_refl _) _
  have o1 : OwnI (w.alloc (.cells #[] 2)) w.heap.size (some ⟨w.heap.size, 0, none⟩) 0 [] := ⟨World.ownsRow_made w #[] 0 (Nat.le_refl _) (by unfold maxLen; omega) rfl, fun _ h => by cases h⟩
  have o2 : OwnI ((w.alloc (.cells #[] 2)).alloc (.cells #[] 2)) w.heap.size (some ⟨w.heap.size + 1, 0, none⟩) 0 [] := by
    have h := World.ownsRow_made (w.alloc (.cells #[] 2)) #[] 0 (e := 2) (base := w.heap.size) (size := 1) (by omega) (by unfold maxLen; omega) rfl
    rw [s1] at h
    exact ⟨h, fun _ h => by cases h⟩
  exact ⟨0, _, 0, [], _, 0, [], Nat.zero_le _, rfl, rfl, rfl, rfl, rfl, rfl, rfl, rfl, o1.kept b2, o2, (fun g h1 h2 => by simp [blk] at h1 h2; omega), b1.trans (b2.mono b1.size)⟩
def LastRel (n : Nat) (W : World) (i : Value) (wr : World) : Prop := ∃ j : Nat, j ≤ n ∧ i = .int .i64 j ∧ Below W.heap.size W wr
theorem isRow_at {w : World} {a : Option Addr} {n cap : Nat} {zs : List Int} (h : IsRow .i64 w a n cap zs) {i : Nat} (hi : i < n) : ∃ b off, a = some ⟨b, off, none⟩ ∧ b < w.heap.size ∧ w.cell? ⟨b, off + i, none⟩ = some (.int .i64 (zs.getD i 0)) := by
  rcases h.2.2.2.2 with h' | ⟨b, off, h1, h2, h3⟩
  · omega
  · exact ⟨b, off, h1, h2, h3 i hi⟩

set_option maxRecDepth 20000 in
theorem walk (a0 : Option Addr) (len0 cap0 : Nat) (z0 : List Int) (a1 : Option Addr) (len1 cap1 : Nat) (z1 : List Int) (w : World) (w0 : IsRow .u8 w a0 len0 cap0 z0) (w1 : IsRow .u8 w a1 len1 cap1 z1) :
    Calls Try.prog 13 #[.slice a0 len0 cap0, .slice a1 len1 cap1] w fun e w' => e = .returned (.bool true) ∧ Below w.heap.size w w' := by
  obtain ⟨hm0, hm1, rfl⟩ : len0 ≤ cap0 ∧ cap0 ≤ maxLen ∧ z0.length = len0 := ⟨w0.1, w0.2.1, w0.2.2.1⟩
  obtain ⟨hn0, hn1, rfl⟩ : len1 ≤ cap1 ∧ cap1 ≤ maxLen ∧ z1.length = len1 := ⟨w1.1, w1.2.1, w1.2.2.1⟩
  have HI0 := Lib.hid w0
  have HI1 := Lib.hid w1
  clear hm0 hm1 hn0 hn1 w0 w1
  by_cases hL : 48 < z0.length ∨ 48 < z1.length
  · have HL := Lib.hid hL
    clear hL
    go_enter Try.func13, Try.ntmps13
    go_wp2_with fail
    refine (c_r8Long_yes _ _ _ _ _ _ HL.out _).mono ?_
    rintro e w' ⟨rfl, rfl⟩
    go_wp2_with fail
    go_ret
    exact ⟨rfl, Below.refl _ _⟩
  · have HL0 := Lib.hid (show z0.length ≤ 48 by omega)
    have HL1 := Lib.hid (show z1.length ≤ 48 by omega)
    obtain ⟨i0, hi, hz0, hz1, hz2⟩ := info_parts info_j64
    have JI := Lib.hid hi
    have HZ0 := Lib.hid hz0
    have HZ1 := Lib.hid hz1
    have HZ2 := Lib.hid hz2
    clear hL hi hz0 hz1 hz2
    go_enter Try.func13, Try.ntmps13
    go_wp2_with fail
    refine (c_r8Long_no _ _ _ _ _ _ HL0.out HL1.out _).mono ?_
    rintro e w' ⟨rfl, rfl⟩
    go_wp2_with fail
    refine (c_r8At _ _ _ z0 40 9 _ HI0.out (by decide) (by decide) (by decide)).mono ?_
    rintro e w3 ⟨v0, p0, p1, rfl, rfl⟩
    obtain ⟨n, rfl⟩ := Int.eq_ofNat_of_zero_le p0
    have hn8 : n ≤ 8 := by omega
    clear p0 p1
    go_wp2_with fail
    have HST := Lib.hid (two_first n w)
    go_loopw [6, 7, 8, 9] (fun a b s i wr => TwoRel n w a b s i wr) (fun _ _ _ i _ => n - (intOf i).toNat)
    case atStart => exact HST.out
    case round =>
      obtain ⟨k, pa, ca, xs, pb, cb, ys, hk, rfl, rfl, rfl, rfl, hxl, hyl, hox, hoy, hx, hy, hap, hb⟩ := hrel
      have HXL := Lib.hid hxl
      have HYL := Lib.hid hyl
      have HOX := Lib.hid hox
      have HOY := Lib.hid hoy
      have HX := Lib.hid hx
      have HY := Lib.hid hy
      have HAP := Lib.hid hap
      have HB := Lib.hid hb
      have hk0 : (0 : Int) ≤ (k : Int) := by omega
      have HSM := Lib.hid (dot_small hox hoy (hxl.trans hyl.symm) k (by omega))
      clear hxl hyl hox hoy hx hy hap hb HST
      by_cases hlt : k < n
      · have hlt' : (k : Int) < (n : Int) := by omega
        go_wp2_with fail
        refine (c_r8At _ _ _ z0 k 255 _ (HI0.out.kept HB.out) (by omega) (by decide) (by decide)).mono ?_
        rintro e w5 ⟨u, u0, u1, rfl, rfl⟩
        go_upto_region 11 with fail
        obtain ⟨x, hx⟩ : ∃ x, u - 127 = x := ⟨_, rfl⟩
        have x0 : -127 ≤ x := by omega
        have x1 : x ≤ 127 := by omega
        rw [hx]
        clear hx u0 u1
        go_wp2_with fail
        refine (c_r8At _ _ _ z1 k 255 _ (HI1.out.kept HB.out) (by omega) (by decide) (by decide)).mono ?_
        rintro e w5 ⟨t, u0, u1, rfl, rfl⟩
        go_upto_region 12 with fail
        obtain ⟨y, hy⟩ : ∃ y, t - 127 = y := ⟨_, rfl⟩
        have y0 : -127 ≤ y := by omega
        have y1 : y ≤ 127 := by omega
        rw [hy]
        clear hy u0 u1
        have A1 := Lib.hid (show xs.length + 1 ≤ maxLen by have := HXL.out; unfold maxLen; omega)
        have A2 := Lib.hid (show (xs.length + 1) * 8 ≤ 140737488355328 by have := HXL.out; omega)
        have A3 := Lib.hid HB.out.size
        have C1 := Lib.hid (show ys.length + 1 ≤ maxLen by have := HYL.out; unfold maxLen; omega)
        have C2 := Lib.hid (show (ys.length + 1) * 8 ≤ 140737488355328 by have := HYL.out; omega)
        obtain ⟨p, hp⟩ : ∃ p, x * y = p := ⟨_, rfl⟩
        obtain ⟨d, hd⟩ : ∃ p, dotI xs ys k = p := ⟨_, rfl⟩
        have HP := Lib.hid hp
        have HD := Lib.hid hd
        have hpp := prod_small ⟨x0, x1⟩ ⟨y0, y1⟩
        have hss := HSM.out
        rw [hp] at hpp
        rw [hd] at hss ⊢
        have k1 : IntKind.i64.wrap (x * y) = p := by rw [hp]; exact IntWalk.i64_in _ (by omega)
        have k2 : IntKind.i64.wrap (d + p) = d + p := IntWalk.i64_in _ (by omega)
        clear hp hd hpp hss
        go_wp2_with (first
          | (at_builtin; refine wpList_append_any _ rfl (.tmp 41) (.tmp 43) 41 rfl w.heap.size 2 i0 (.int .i64 0) 1 8 Try.underlying41 JI.out HZ0.out HZ1.out HZ2.out rfl Nat.one_pos (.slice pa xs.length ca) xs.length (xs.map toV) rfl (growJ_own HX.out) (wr.heap.size + 1) (some ⟨wr.heap.size, 0, none⟩) 1 1 [.int .i64 x] rfl growJ_reads (one_i64 _) A1.out A2.out (growJ_base A3.out) ?_; intro v' w' hown hgr hat; obtain ⟨a', c', rfl⟩ := ownsRow_slice hown; obtain ⟨g1, g2, g3, g4⟩ := grow_two HX.out HY.out HAP.out x0 x1 A3.out hown hgr hat; have G1 := Lib.hid g1; have G2 := Lib.hid g2; have G3 := Lib.hid g3; have G4 := Lib.hid g4; have D3 := Lib.hid (Nat.le_trans A3.out g4.size); clear hown hgr hat g1 g2 g3 g4)
          | (at_builtin; refine wpList_append_any _ rfl (.tmp 45) (.tmp 47) 41 rfl w.heap.size 2 i0 (.int .i64 0) 1 8 Try.underlying41 JI.out HZ0.out HZ1.out HZ2.out rfl Nat.one_pos (.slice pb ys.length cb) ys.length (ys.map toV) rfl (growJ_own G2.out) (w'.heap.size + 1) (some ⟨w'.heap.size, 0, none⟩) 1 1 [.int .i64 y] rfl growJ_reads (one_i64 _) C1.out C2.out (growJ_base D3.out) ?_; intro v'' w'' hown hgr hat; obtain ⟨b', c'', rfl⟩ := ownsRow_slice hown; obtain ⟨g1, g2, g3, g4⟩ := grow_two G2.out G1.out (fun g h1 h2 => G3.out g h2 h1) y0 y1 D3.out hown hgr hat; have K1 := Lib.hid g1; have K2 := Lib.hid g2; have K3 := Lib.hid g3; have K4 := Lib.hid g4; clear hown hgr hat g1 g2 g3 g4))
        go_roundw
        case rel =>
          refine ⟨k + 1, a', c', xs ++ [x], b', c'', ys ++ [y], hlt, by simp, by simp, ?_, by go_num, by simp [HXL.out], by simp [HYL.out], okCod_snoc HOX.out (by have := HXL.out; omega) x0 x1, okCod_snoc HOY.out (by have := HYL.out; omega) y0 y1, K2.out, K1.out, (fun g h1 h2 => K3.out g h2 h1), (HB.out.trans G4.out).trans K4.out⟩
          rw [dotI_snoc HXL.out HYL.out, HD.out, HP.out]
        case measure => simp [intOf]; omega
      · obtain rfl : k = n := by omega
        have HNB := Lib.hid (t_iNumbersOfC xs 1065353216 pa ca wr HX.out.isRow (by decide))
        rw [vNumbersOf_yes HOX.out (by decide)] at HNB
        have HSB := Lib.hid (dot_small HOX.out HOY.out (HXL.out.trans HYL.out.symm) k (by have := HXL.out; omega))
        go_wp2_with fail
        refine HNB.out.mono ?_
        rintro e w2 ⟨la, lc, fs, rfl, hfo, hfe, hfb⟩
        obtain ⟨hfl, hfat, hfok⟩ := num_list HOX.out hfe
        have HFO := Lib.hid hfo
        have HFA := Lib.hid hfat
        have HFK := Lib.hid hfok
        have HFL := Lib.hid hfl
        have HB2 := Lib.hid (Below.next HB.out hfb)
        have HX2 := Lib.hid (HX.out.kept hfb)
        have HY2 := Lib.hid (HY.out.kept hfb)
        clear hfo hfe hfb hfl hfat hfok HNB HX HY HB
        have HC1 := Lib.hid (t_iCodesOfC fs 1065353216 la lc w2 HFO.out.isFloats (by decide))
        rw [codes_list HOX.out HFL.out HFA.out HFK.out] at HC1
        go_wp2_with fail
        refine HC1.out.mono ?_
        rintro e w3 ⟨ba, bc, bs, rfl, hbo, hbe, hbb⟩
        rw [hbe] at hbo ⊢
        have HBO := Lib.hid hbo
        have HB3 := Lib.hid (Below.next HB2.out hbb)
        have HX3 := Lib.hid (HX2.out.kept hbb)
        have HY3 := Lib.hid (HY2.out.kept hbb)
        have HF3 := Lib.hid (HFO.out.kept hbb)
        clear hbo hbb hbe HC1 HX2 HY2 HB2 HFO
        have HC2 := Lib.hid (t_iCodesOfC fs 0 la lc w3 HF3.out.isFloats (by decide))
        rw [codes_none HFK.out] at HC2
        go_wp2_with fail
        refine HC2.out.mono ?_
        rintro e w4 ⟨na, nc, ns, rfl, hno, hne, hnb⟩
        have hnl : ns.length = k := by rw [hne, List.length_replicate, HFL.out, HXL.out]
        have HNE := Lib.hid hne
        have HNO := Lib.hid hno
        have HNL := Lib.hid hnl
        have HB4 := Lib.hid (Below.next HB3.out hnb)
        have HX4 := Lib.hid (HX3.out.kept hnb)
        have HY4 := Lib.hid (HY3.out.kept hnb)
        have HF4 := Lib.hid (HF3.out.kept hnb)
        have HBO4 := Lib.hid (HBO.out.kept hnb)
        clear hno hnb hne HC2 HX3 HY3 HB3 HF3 HBO
        have HD1 := Lib.hid (t_iDotOfCodesC xs ys 1056964608 1082130432 pa pb ca cb w4 HX4.out.isRow HY4.out.isRow (by decide) (by decide))
        rw [vDot_yes HOX.out HOY.out (HXL.out.trans HYL.out.symm) (by decide) (by decide), show canon .f32 1056964608 = 1056964608 by decide +kernel, show canon .f32 1082130432 = 1082130432 by decide +kernel] at HD1
        have hsb := HSB.out
        obtain ⟨S, hS⟩ : ∃ S, dotI xs ys k = S := ⟨_, rfl⟩
        rw [hS] at hsb ⊢
        rw [show dotI xs ys xs.length = S by rw [HXL.out]; exact hS] at HD1
        have s0 : -200000 ≤ S := by omega
        have s1 : S ≤ 200000 := by omega
        rw [dot_four ⟨s0, s1⟩] at HD1
        clear hsb hS HSB
        go_wp2_with fail
        refine HD1.out.mono ?_
        rintro e w5 ⟨r, hr, rfl, hdb⟩
        obtain rfl := canon_back hr (foi_nn _)
        have HB5 := Lib.hid (Below.next HB4.out hdb)
        have R0 := Lib.hid (HF4.out.kept hdb).isFloats
        have R1 := Lib.hid (HBO4.out.kept hdb).isRow
        have R2 := Lib.hid (HNO.out.kept hdb).isRow
        have R3 := Lib.hid (HX4.out.kept hdb).isRow
        have hff : FloatKind.f32.format.order (floatOfInt .f32 (2 * S)) (floatOfInt .f32 (2 * S)) = some .eq := order_refl (foi_nn _)
        have hfx := HFL.out.trans HXL.out
        have hnx := HXL.out
        have hny := HYL.out
        rw [hfx] at R0
        rw [hnx] at R1 R3
        rw [hnl] at R2
        simp only [hnx, hny, hfx]
        clear hr hdb HD1 HX4 HY4 HB4 HF4 HBO4 HNO hnx hny hnl hfx
        go_wp2_with fail
        clear hff s0 s1
        go_loopw [20] (fun i wr => LastRel k w5 i wr) (fun i _ => k - (intOf i).toNat)
        case atStart => exact ⟨0, Nat.zero_le _, rfl, Below.refl _ _⟩
        case round =>
          obtain ⟨j, hj, rfl, hb⟩ := hrel
          have HBJ := Lib.hid hb
          have hj0 : (0 : Int) ≤ (j : Int) := by omega
          clear hb
          by_cases hlt : j < k
          · have hlt' : (j : Int) < (k : Int) := by omega
            rcases R0.out.2.2.2.2 with h' | ⟨g0, o0, rfl, hg0, hc0⟩
            · omega
            obtain ⟨g1, o1, rfl, hg1, hc1⟩ := isRow_at R1.out hlt
            obtain ⟨g2, o2, rfl, hg2, hc2⟩ := isRow_at R2.out hlt
            obtain ⟨g3, o3, rfl, hg3, hc3⟩ := isRow_at R3.out hlt
            have q0 := (HBJ.out.cell (p := ⟨g0, o0 + j, none⟩) hg0).trans (hc0 j hlt)
            have q1 := (HBJ.out.cell (p := ⟨g1, o1 + j, none⟩) hg1).trans hc1
            have q2 := (HBJ.out.cell (p := ⟨g2, o2 + j, none⟩) hg2).trans hc2
            have q3 := (HBJ.out.cell (p := ⟨g3, o3 + j, none⟩) hg3).trans hc3
            rw [HFA.out j (by rw [HXL.out]; exact hlt)] at q0
            have hz : ns.getD j 0 = 0 := by rw [HNE.out]; simp [List.getD, HFL.out, HXL.out, hlt]
            rw [hz] at q2
            obtain ⟨c, hc⟩ : ∃ c, xs.getD j 0 = c := ⟨_, rfl⟩
            rw [hc] at q0 q1 q3
            have hff : FloatKind.f32.format.order (floatOfInt .f32 c) (floatOfInt .f32 c) = some .eq := order_refl (foi_nn _)
            clear hc0 hc1 hc2 hc3 hc hz
            go_wp2_with fail
            go_quiet (fail)
            go_wp2_with fail
            go_roundw
            case rel => exact ⟨j + 1, hlt, by go_num, below_drewN HBJ.out _⟩
            case measure => simp [intOf]; omega
          · obtain rfl : j = k := by omega
            go_wp2_with fail
            go_ret
            exact ⟨rfl, Below.next HB5.out HBJ.out⟩

/-! the row's step -/
set_option maxRecDepth 100000 in
theorem lifted (os : Os) (started : os.Started) (H : Type) (enc : TypeId × Value → H) :
    ReturnsInHanded {} Try.checked os 13 .any (Rows.fnCodesSpec.pre6 enc Try.prog Try.f13 Rows.fnCodesRow.domain false) (Rows.fnCodesSpec.post enc Try.prog Try.f13 false true false false) := by
  refine returnsInHanded_of_change (C := Try.checked) own started (by kernel_rfl) Try.func13
    (ChangeSpec.witness6 (enc := enc) (C := Try.checked) false ⟨#[], #[.slice none 0 0, .slice none 0 0], []⟩ 8 (by kernel_rfl) (by kernel_rfl) (by kernel_rfl) (by kernel_rfl)) ?_
  intro W base args ds gs before hval0 hW hcnd _
  have hval : ∀ (j : Nat) t v, Try.f13.params[j]? = some t → args[j]? = some v → Value.okWide Try.prog W .any base t v := hval0
  have hW' := hW
  obtain ⟨p, q, hA0, hV, rfl, hfz, hnd⟩ := hW
  have hA : DataW.TrodAll enc Try.prog W 0 (fun _ => true) true Try.f13.params.toList args.toList ds p := hA0
  rw [Try.params13] at hA hval
  obtain ⟨v0, vs0, d0, ds0, p0, q0, hargs, rfl, rfl, h0, rest0⟩ := trodAll_cons hA
  obtain ⟨v1, vs1, d1, ds1, p1, q1, rfl, rfl, rfl, h1, rest1⟩ := trodAll_cons rest0
  obtain ⟨rfl, rfl, rfl⟩ := trodAll_nil rest1
  obtain rfl : args = #[v0, v1] := by cases args; simp_all
  obtain ⟨rfl, rfl⟩ := trodVars_none hV
  obtain ⟨a0, len0, cap0, rfl⟩ := okWide_slice Try.underlying59 (hval 0 59 v0 rfl rfl)
  have k0 := h0
  have lt0 : ∀ x ∈ p0, x.block < W.heap.size := by obtain ⟨m, hm⟩ := k0; exact DataW.trod_lt m _ _ _ hm
  obtain ⟨z0, w0⟩ := isRow_of (k := .u8) Try.underlying59 Try.underlying5 (by kernel_rfl) h0
  obtain ⟨a1, len1, cap1, rfl⟩ := okWide_slice Try.underlying59 (hval 1 59 v1 rfl rfl)
  have k1 := h1
  have lt1 : ∀ x ∈ p1, x.block < W.heap.size := by obtain ⟨m, hm⟩ := k1; exact DataW.trod_lt m _ _ _ hm
  obtain ⟨z1, w1⟩ := isRow_of (k := .u8) Try.underlying59 Try.underlying5 (by kernel_rfl) h1
  clear hA0 hval0
  refine (walk a0 len0 cap0 z0 a1 len1 cap1 z1 W w0 w1).mono fun e W' ⟨he, bel⟩ => ?_
  subst he
  exact ⟨_, rfl, _, _, _, [], _, [], hW', trodAll_mk1 (shut_bool Try.underlying4 _), (trodAll_cons_mk (Below.trod laidOut (by kernel_rfl) (of_decide_eq_true (by kernel_rfl)) k0 bel lt0) (trodAll_cons_mk (Below.trod laidOut (by kernel_rfl) (of_decide_eq_true (by kernel_rfl)) k1 bel lt1) trodAll_mk0)), rfl, bel.frame _, fun h => by cases h⟩

theorem over : Rows.fnCodesRow.holds Try.pinned (OpenSpec.ofChange Rows.fnCodesSpec) :=
  OpenClaim.holds_of_wide 13 Try.f13 rfl rfl rfl rfl rfl rfl rfl ⟨rfl, rfl, rfl, rfl, rfl⟩ rfl rfl rfl rfl rfl (by kernel_rfl) Try.func13 (by kernel_rfl)
    (of_decide_eq_true (by kernel_rfl)) (by unfold Func.isWrapper; first | (rw [if_pos (by decide +kernel)]; kernel_rfl) | (rw [if_neg (by decide +kernel)]; exact ⟨rfl, rfl⟩))
    (fun os started H enc _ => lifted os started H enc)

/-- the statement -/
theorem proved : Rows.FnCodesSaid := over
end Go.Proofs.Ytgffcmmdmenefaa.fnCodes
