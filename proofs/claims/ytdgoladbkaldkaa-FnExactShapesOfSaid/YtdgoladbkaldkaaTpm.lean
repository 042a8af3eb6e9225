/-
  The model's shapes of a tape. Conditions: the cells can be read.
-/
import Derived.Test.YtdgoladbkaldkaaTpt
import Derived.Test.YtdgoladbkaldkaaTpr
import Derived.BigQuiet
import Derived.WalkSmall
import Derived.Deep.RegionLaw
import Derived.RegionTactic
import Derived.Deep.CutRange
import Derived.Deep.CutBlock
import Derived.Deep.DeepCutAuto
namespace Go.Proofs.Ytdgoladbkaldkaa
open Go.RowKit Go.Deep Go.WideShapes Go.ChangeShapes
set_option linter.unusedVariables false
set_option linter.unusedSimpArgs false
attribute [local go_sem] World.drewN_zero

theorem info_tn3 : (Try.prog.info? 46).map (fun i => (i.zero, i.size, i.bytes)) = some (some (.agg #[.int .i64 0, .int .i64 0, .slice none 0 0]), 3, 40) := by kernel_rfl
theorem quiet_sameP {P : Program} {f : FuncId} {args : Array Value} {w : World} {n : Nat} {v : Value}
    (h : Calls P f args (w.drewN n) fun e w' => e = .returned v ∧ w.drewN n = w') : Calls P f args (w.drewN n) fun e w'' => e = .returned v ∧ ∃ m, w'' = w.drewN m :=
  h.mono fun _ _ ⟨he, hw⟩ => ⟨he, n, hw.symm⟩
theorem canon_zero' {x : Nat} (h : canon .f32 x = canon .f32 0) : x = 0 := by
  have e : canon .f32 0 = 0 := canon_num (k := .f32) (b := 0) (by decide +kernel)
  rw [e] at h
  cases hn : isNan .f32 x with
  | false => rw [canon_num hn] at h; exact h
  | true => rw [canon_nan hn] at h; exact absurd h (by decide +kernel)
theorem same_zero_no {nu : Nat} (h : nu < 2 ^ 32) (hn : ¬ nu = 0) (w : World) : Calls Try.prog 60 #[.float .f32 nu, .float .f32 0] w fun e w' => e = .returned (.bool false) ∧ w = w' := by
  have c := c_l01Same nu 0 (by simpa using h) (by decide) w
  have e : ((canon .f32 nu : Int) == (canon .f32 0 : Int)) = false := by
    refine beq_false_of_ne fun h2 => hn (canon_zero' ?_)
    exact Int.ofNat.inj h2
  rw [e] at c
  exact c
theorem same_zero_yes (w : World) : Calls Try.prog 60 #[.float .f32 0, .float .f32 0] w fun e w' => e = .returned (.bool true) ∧ w = w' := by
  have c := c_l01Same 0 0 (by decide) (by decide) w
  rw [show ((canon .f32 0 : Int) == (canon .f32 0 : Int)) = true by simp] at c
  exact c
def RetMSh (r : Option (List (Int × Int))) (w : World) (e : Ending) (w' : World) : Prop := match r with
  | some l => ∃ a c, e = .returned (.tuple #[.slice a l.length c, .bool true]) ∧ w'.ownsRow w.heap.size 46 3 (.slice a l.length c) l.length (fl3 l) ∧ Below w.heap.size w w'
  | none => ∃ a n c, e = .returned (.tuple #[.slice a n c, .bool false]) ∧ Below w.heap.size w w'
def MShRel (ps : List TpP) (n : Nat) (w : World) (sv iv : Value) (wr : World) : Prop :=
  ∃ (k : Nat) (l : List (Int × Int)) (a : Option Addr) (c : Nat), k ≤ n ∧ iv = .int .i64 k ∧ shUp ps k = some l ∧ sv = .slice a k c ∧ wr.ownsRow w.heap.size 46 3 (.slice a k c) k (fl3 l) ∧ Below w.heap.size w wr
theorem reads3 {w : World} {g : Nat} {t : TypeId} {v0 v1 v2 : Value} (h : Blk w g t #[v0, v1, v2]) : Reads w w.heap.size 3 (some ⟨g, 0, none⟩) 1 [v0, v1, v2] := by
  refine ⟨rfl, fun _ => ⟨_, rfl, h.lt, fun j u hu => ?_⟩⟩
  rw [add_plain, Nat.zero_add, h.cell j]
  simpa using hu
theorem ones3 (x y : Int) : ∀ u ∈ [Value.int .i64 x, .int .i64 y, .slice none 0 0], u.oneCell' = true := by
  intro u hu
  simp only [List.mem_cons, List.not_mem_nil, or_false] at hu
  rcases hu with rfl | rfl | rfl <;> rfl
theorem c_l04NoneV (g o : Nat) (r c : Int) (a : Option Addr) (n cap : Nat) (v : Bool) (hv : noneB r c n = v) (w : World) (hn : n ≤ 9223372036854775807)
    (h0 : w.cell? ⟨g, o, none⟩ = some (.int .i64 r)) (h1 : w.cell? ⟨g, o + 1, none⟩ = some (.int .i64 c)) (h2 : w.cell? ⟨g, o + 2, none⟩ = some (.slice a n cap)) :
    Calls Try.prog 62 #[.pointer (some ⟨g, o, none⟩)] w fun e w' => e = .returned (.bool v) ∧ w = w' := by subst hv; exact c_l04None g o r c a n cap w hn h0 h1 h2
theorem c_l04TwoV (k : Int) (v : Bool) (hv : tTwo k = v) (w : World) : Calls Try.prog 38 #[.int .i64 k] w fun e w' => e = .returned (.bool v) ∧ w = w' := by subst hv; exact c_l04Two k w
theorem row3_at {w : World} {B : Nat} {t : TypeId} {k c : Nat} {a : Option Addr} {l : List (Int × Int)} (h : w.ownsRow B t 3 (.slice a k c) k (fl3 l)) (hk : 0 < k) (hl : l.length = k) :
    ∃ g, a = some ⟨g, 0, none⟩ ∧ g < w.heap.size ∧ k ≤ c ∧ ∀ j, j < k → w.cell? ⟨g, j * 3, none⟩ = some (.int .i64 (l.getD j (0, 0)).1) ∧ w.cell? ⟨g, j * 3 + 1, none⟩ = some (.int .i64 (l.getD j (0, 0)).2) ∧ w.cell? ⟨g, j * 3 + 2, none⟩ = some (.slice none 0 0) := by
  have h' := h
  obtain ⟨h1, h2 | ⟨g, m, cs, e, h3, h4, h5, h6⟩⟩ := h'
  · obtain ⟨e, h3⟩ := h2
    injection e with e1 e2 e3
    omega
  · injection e with e1 e2 e3
    subst e1
    refine ⟨g, rfl, (ownsRow_lt h g (by simp [blk])).2, by omega, fun j hj => ?_⟩
    have f := fl3_get l j (by omega)
    exact ⟨(h.cellAt (j * 3) (by omega)).trans f.1, (h.cellAt (j * 3 + 1) (by omega)).trans f.2.1, (h.cellAt (j * 3 + 2) (by omega)).trans f.2.2⟩
theorem row3_cell {w : World} {B : Nat} {t : TypeId} {k c g j : Nat} {l : List (Int × Int)} {x y : Int} (h : w.ownsRow B t 3 (.slice (some ⟨g, 0, none⟩) k c) k (fl3 l)) (hl : l.length = k) (hj : j < k) (e : l.getD j (0, 0) = (x, y)) : w.cell? ⟨g, j * 3, none⟩ = some (.int .i64 x) ∧ w.cell? ⟨g, j * 3 + 1, none⟩ = some (.int .i64 y) ∧ w.cell? ⟨g, j * 3 + 2, none⟩ = some (.slice none 0 0) := by
  have f := fl3_get l j (by omega)
  rw [e] at f
  exact ⟨(h.cellAt (j * 3) (by omega)).trans f.1, (h.cellAt (j * 3 + 1) (by omega)).trans f.2.1, (h.cellAt (j * 3 + 2) (by omega)).trans f.2.2⟩
theorem row3_two {w : World} {B : Nat} {t : TypeId} {k c g i j : Nat} {l : List (Int × Int)} {x y x' y' : Int} (h : w.ownsRow B t 3 (.slice (some ⟨g, 0, none⟩) k c) k (fl3 l)) (hl : l.length = k) (hi : i < k) (hj : j < k) (e : l.getD i (0, 0) = (x, y)) (e' : l.getD j (0, 0) = (x', y')) :
    (w.cell? ⟨g, i * 3, none⟩ = some (.int .i64 x) ∧ w.cell? ⟨g, i * 3 + 1, none⟩ = some (.int .i64 y) ∧ w.cell? ⟨g, i * 3 + 2, none⟩ = some (.slice none 0 0)) ∧ (w.cell? ⟨g, j * 3, none⟩ = some (.int .i64 x') ∧ w.cell? ⟨g, j * 3 + 1, none⟩ = some (.int .i64 y') ∧ w.cell? ⟨g, j * 3 + 2, none⟩ = some (.slice none 0 0)) := ⟨row3_cell h hl hi e, row3_cell h hl hj e'⟩
theorem msh_next {ps : List TpP} {n k c : Nat} {w w3 w' : World} {l : List (Int × Int)} {a : Option Addr} {v' iv : Value} {s : Int × Int} {x y : Int} (hx : s = (x, y)) (hk : k + 1 ≤ n) (hup : shUp ps (k + 1) = some (l ++ [s])) (hiv : iv = .int .i64 ((k : Int) + 1))
    (hO : w3.ownsRow w.heap.size 46 3 (.slice a k c) k (fl3 l)) (hB : Below w.heap.size w w3) (hown : w'.ownsRow w.heap.size 46 3 v' (k + 1) (fl3 l ++ [.int .i64 x, .int .i64 y, .slice none 0 0])) (hgr : w3.grownBy w' (Value.ownBlock (.slice a k c))) : MShRel ps n w v' iv w' := by
  subst hx
  obtain ⟨a', c', rfl⟩ := ownsRow_slice hown
  rw [ownBlock_slice] at hgr
  refine ⟨k + 1, l ++ [(x, y)], a', c', hk, by rw [hiv]; rfl, hup, rfl, by rw [fl3_snoc]; exact hown, hB.grown hgr hB.size (fun g h => (ownsRow_lt hO g (by rw [h]; simp)).1)⟩

def bad8 (kd : Int) (nu : Nat) : Bool := !(decide (0 ≤ kd) && decide (kd ≤ 10)) || (!decide (kd = 5) && !decide (nu = 0))
def bad14 (kd xa xb rw cl : Int) (n k : Nat) : Bool := !noneB rw cl n || (!(decide (0 ≤ xa) && decide (xa < (k : Int))) || ((tTwo kd && !(decide (0 ≤ xb) && decide (xb < (k : Int)))) || (!tTwo kd && !decide (xb = 0))))
theorem tnb3 {w : World} {g : Nat} {t : TypeId} {v0 v1 v2 : Value} (h : Blk w g t #[v0, v1, v2]) : w.cell? ⟨g, 0, none⟩ = some v0 ∧ w.cell? ⟨g, 1, none⟩ = some v1 ∧ w.cell? ⟨g, 2, none⟩ = some v2 ∧ g < w.heap.size := ⟨h.cell 0, h.cell 1, h.cell 2, h.lt⟩
theorem tnf3 {w : World} {g : Nat} {t : TypeId} {v0 v1 v2 : Value} (h : Blk w g t #[v0, v1, v2]) : w.frozen? ⟨g, 0, none⟩ = false ∧ w.frozen? ⟨g, 1, none⟩ = false ∧ w.frozen? ⟨g, 2, none⟩ = false := ⟨h.frozen 0, h.frozen 1, h.frozen 2⟩
theorem store_tn3 {w : World} {g : Nat} {t : TypeId} {v0 v1 v2 u0 u1 u2 : Value} (h : Blk w g t #[v0, v1, v2]) : Blk (((w.setCell ⟨g, 0, none⟩ u0).setCell ⟨g, 1, none⟩ u1).setCell ⟨g, 2, none⟩ u2) g t #[u0, u1, u2] ∧ w.grownBy (((w.setCell ⟨g, 0, none⟩ u0).setCell ⟨g, 1, none⟩ u1).setCell ⟨g, 2, none⟩ u2) (some g) := by
  constructor
  · unfold Blk at h ⊢
    simp [World.setCell, Array.getElem?_modify, h]
  · have st : ∀ (w : World) (i : Nat) (u : Value), w.grownBy (w.setCell ⟨g, i, none⟩ u) (some g) := fun w i u =>
      ⟨rfl, rfl, rfl, by simp, fun k _ hk => Below.heap_setCell w ⟨g, i, none⟩ u k (fun e => hk (by simp [e]))⟩
    exact grown_set (grown_set (st w 0 u0) (st _ 1 u1)) (st _ 2 u2)
def SwEnd (w4 : World) (gC : Nat) (s : Int × Int) (ok : Bool) (v : Value) (wx : World) : Prop := v = .bool ok ∧ Blk wx gC 46 #[.int .i64 s.1, .int .i64 s.2, .slice none 0 0] ∧ w4.grownBy wx (some gC)
theorem grown_same (w : World) (r : Option Nat) : w.grownBy w r := ⟨rfl, rfl, rfl, Nat.le_refl _, fun _ _ _ => rfl⟩
theorem bad8_no {kd : Int} {nu : Nat} (h : bad8 kd nu = false) : (decide (0 ≤ kd) && decide (kd ≤ 10)) = true ∧ (kd = 5 ∨ nu = 0) := by
  simp only [bad8, Bool.or_eq_false_iff, Bool.not_eq_false'] at h
  refine ⟨h.1, ?_⟩
  have h2 := h.2
  by_cases h5 : kd = 5
  · exact .inl h5
  · refine .inr ?_
    simpa [h5] using h2
theorem bad8_yes {kd : Int} {nu : Nat} {p : TpP} {l : List (Int × Int)} (h : bad8 kd nu = true) (e1 : p.kd = kd) (e2 : p.nu = nu) : opShape p l = none := by
  subst e1 e2
  cases h1 : (decide (0 ≤ p.kd) && decide (p.kd ≤ 10)) with
  | false => exact op_out h1
  | true =>
    have h5 : ¬ p.kd = 5 := fun e => by simp [bad8, h1, e] at h
    have h6 : ¬ p.nu = 0 := fun e => by simp [bad8, h1, e] at h
    exact op_number h5 h6
theorem bad14_yes {p : TpP} {k : Nat} {l : List (Int × Int)} (hl : l.length = k) (h0 : ¬ p.kd = 0) (h : bad14 p.kd p.xa p.xb p.rw p.cl p.zd.length k = true) : opShape p l = none := by
  subst hl
  cases h1 : noneB p.rw p.cl p.zd.length with
  | false => exact op_val h0 h1
  | true =>
  by_cases ha : 0 ≤ p.xa ∧ p.xa < (l.length : Int)
  case neg => exact op_a h0 ha
  case pos =>
  cases h2 : tTwo p.kd with
  | true =>
    by_cases hb : 0 ≤ p.xb ∧ p.xb < (l.length : Int)
    case neg => exact op_b h0 h2 hb
    case pos => simp [bad14, h1, h2, ha, hb] at h
  | false =>
    by_cases hb : p.xb = 0
    case neg => exact op_b0 h2 hb
    case pos => simp [bad14, h1, h2, ha, hb] at h
theorem bad14_no {kd xa xb rw cl : Int} {n k : Nat} (h : bad14 kd xa xb rw cl n k = false) : noneB rw cl n = true ∧ (0 ≤ xa ∧ xa < (k : Int)) ∧ (if tTwo kd = true then 0 ≤ xb ∧ xb < (k : Int) else xb = 0) := by
  simp only [bad14, Bool.or_eq_false_iff, Bool.not_eq_false', Bool.and_eq_true, decide_eq_true_eq] at h
  obtain ⟨h1, h2, h3, h4⟩ := h
  refine ⟨h1, h2, ?_⟩
  cases ht : tTwo kd with
  | true => rw [if_pos rfl]; simpa [ht] using h3
  | false => rw [if_neg (by decide)]; simpa [ht] using h4
theorem swend_box {w4 wx : World} {gC : Nat} {s : Int × Int} {ok : Bool} {v : Value} (h : SwEnd w4 gC s ok v wx) : v = .bool ok := h.1
set_option maxHeartbeats 8000000 in
set_option maxRecDepth 20000 in
theorem c_l04Shapes (g : Option Addr) (cap : Nat) (ls : List TpA) (w : World) (h : TpsAt w g ls.length cap ls) : Calls Try.prog 35 #[.slice g ls.length cap] w (RetMSh (vShapes (ls.map TpA.p)) w) := by
  obtain ⟨n, hn⟩ : ∃ n, ls.length = n := ⟨_, rfl⟩
  have hmax : n ≤ 9223372036854775807 := by have h1 := h.2.1; have h2 := h.2.2.1; unfold maxLen at h2; omega
  have H := Lib.hid h
  have HN := Lib.hid hn
  obtain ⟨ps, hps⟩ : ∃ ps, ls.map TpA.p = ps := ⟨_, rfl⟩
  have HP := Lib.hid hps
  have hpl : ps.length = n := by rw [← hps, List.length_map, hn]
  have HPL := Lib.hid hpl
  rw [hps]
  rw [hn] at H ⊢
  clear h hps
  have C0 := Lib.hid (fun (k : Int) (W : World) => c_l00In k 0 10 _ rfl W)
  obtain ⟨i0, hi, hz0, hz1, hz2⟩ := info_parts info_tn3
  have HI := Lib.hid hi
  have HZ0 := Lib.hid hz0
  have HZ1 := Lib.hid hz1
  have HZ2 := Lib.hid hz2
  clear hi hz0 hz1 hz2
  by_cases h1 : 1 ≤ n
  case neg =>
    obtain rfl : n = 0 := by omega
    have HV := Lib.hid (show vShapes ps = none by unfold vShapes; rw [hpl]; rfl)
    rw [HV.out]
    clear hpl hn h1
    go_enter Try.func35, Try.ntmps35
    go_wp2
    go_ret2
    exact ⟨_, _, _, rfl, by first | exact Below.refl _ _ | exact (Below.refl _ _).alloc (Nat.le_refl _) _⟩
  case pos =>
  by_cases h48 : n ≤ 48
  case neg =>
    have HV := Lib.hid (show vShapes ps = none by unfold vShapes; rw [if_neg (by rw [hpl]; simp; omega)])
    rw [HV.out]
    have g1 : (1 : Int) ≤ (n : Int) := by omega
    have g49 : ¬ (n : Int) ≤ 48 := by omega
    clear hpl hn h1 h48
    go_enter Try.func35, Try.ntmps35
    go_wp2
    go_ret2
    exact ⟨_, _, _, rfl, by first | exact Below.refl _ _ | exact (Below.refl _ _).alloc (Nat.le_refl _) _⟩
  case pos =>
  have HV := Lib.hid (show vShapes ps = shUp ps n by unfold vShapes; rw [if_pos (by rw [hpl]; simp; omega), hpl])
  rw [HV.out]
  have g1 : (1 : Int) ≤ (n : Int) := by omega
  have g48 : (n : Int) ≤ 48 := by omega
  have H48 := Lib.hid h48
  clear hpl hn h1 h48
  go_enter Try.func35, Try.ntmps35
  go_wp2
  go_loopw [4, 5] (fun sv iv wr => MShRel ps n w sv iv wr) (fun _ iv _ => n - (intOf iv).toNat)
  case atStart =>
    refine ⟨0, [], _, _, Nat.zero_le _, rfl, rfl, rfl, ?_, ?_⟩
    · exact ⟨by simp [fl3], .inr ⟨w.heap.size, 0, _, rfl, Nat.le_refl _, heap_alloc_new w _, Nat.le_refl _, by unfold maxLen; omega, rfl, by simp [fl3]⟩⟩
    · exact (Below.refl _ _).alloc (Nat.le_refl _) _
  case round =>
    obtain ⟨k, l, a, c, hk, rfl, hup, rfl, how, hb⟩ := hrel
    have HU := Lib.hid hup
    have HO := Lib.hid how
    have HB := Lib.hid hb
    have HL := Lib.hid (shUp_len hup)
    clear hup how hb
    by_cases hlt : k < n
    · have hlt' : (k : Int) < (n : Int) := by omega
      obtain ⟨b, off, kd, xa, xb, nu, rw, cl, zd, a0, c0, rfl, hbk, hx, q0, q1, q2, q3, q4, q5, q6, hnu, f0⟩ := (H.out.kept HB.out).one hlt
      have hx' : ps[k]? = some (⟨kd, xa, xb, nu, rw, cl, zd⟩ : TpP) := by rw [← HP.out]; simp [hx]
      have HX := Lib.hid hx'
      have hz : zd.length ≤ 9223372036854775807 := by have h1 := f0.1; have h2 := f0.2.1; unfold maxLen at h2; omega
      have HZD := Lib.hid hz
      have NO := Lib.hid (fun (hs : opShape (⟨kd, xa, xb, nu, rw, cl, zd⟩ : TpP) l = none) => shUp_none (shUp_stop HU.out HX.out hs) n (by omega))
      have ba := (Below.refl wr.heap.size wr).alloc (Nat.le_refl _) (.cells #[.int .i64 kd, .int .i64 xa, .int .i64 xb, .float .f32 nu, .int .i64 rw, .int .i64 cl, .slice a0 zd.length c0] 56)
      have P1 := Lib.hid (Blk.new wr 56 #[.int .i64 kd, .int .i64 xa, .int .i64 xb, .float .f32 nu, .int .i64 rw, .int .i64 cl, .slice a0 zd.length c0])
      have O1 := Lib.hid (row_kept HO.out ba)
      have B1 := Lib.hid (Below.next HB.out ba)
      have HNU := Lib.hid hnu
      have hk1 : k + 1 ≤ n := by omega
      clear hx hx' f0 hbk ba hz hnu
      go_upto_region 8 with fail
      clear q0 q1 q2 q3 q4 q5 q6
      generalize wr.alloc (.cells #[.int .i64 kd, .int .i64 xa, .int .i64 xb, .float .f32 nu, .int .i64 rw, .int .i64 cl, .slice a0 zd.length c0] 56) = w1 at P1 O1 B1 ⊢
      obtain ⟨g0, hg0⟩ : ∃ g0, wr.heap.size = g0 := ⟨_, rfl⟩
      rw [hg0] at P1 ⊢
      obtain ⟨p0, p1, p2, p3, p4, p5, p6, pl⟩ := P1.out.tpbox
      go_cut [41] from 17 to 175 (fun v wx => v = .bool (bad8 kd nu) ∧ w1 = wx)
      case first =>
        as_aux_lemma =>
          cases hin : (decide (0 ≤ kd) && decide (kd ≤ 10)) with
          | false =>
            have HIN := Lib.hid hin
            have EB := Lib.hid (show bad8 kd nu = true by simp [bad8, hin])
            clear hin
            go_wp2_with (go_at_call 59; refine (c_l00In kd 0 10 false HIN.out _).mono ?_; rintro e w' ⟨rfl, rfl⟩)
            go_meet
            exact ⟨by rw [EB.out], rfl⟩
          | true =>
            have L1 := Lib.hid (fun (W : World) => c_l00In kd 0 10 true hin W)
            by_cases h5 : kd = 5
            · subst h5
              have EB := Lib.hid (show bad8 5 nu = false by simp [bad8])
              clear hin
              go_wp2_with (go_at_call 59; refine (L1.out _).mono ?_; rintro e w' ⟨rfl, rfl⟩)
              go_meet
              exact ⟨by rw [EB.out], rfl⟩
            · by_cases hnz : nu = 0
              case neg =>
                have EB := Lib.hid (show bad8 kd nu = true by simp [bad8, h5, hnz])
                have SM := Lib.hid (same_zero_no HNU.out hnz)
                clear hnz hin
                go_wp2_with (first | (go_at_call 59; refine (L1.out _).mono ?_; rintro e w' ⟨rfl, rfl⟩) | (go_at_call 60; refine (SM.out _).mono ?_; rintro e w' ⟨rfl, rfl⟩))
                go_meet
                exact ⟨by rw [EB.out, show (kd != 5) = true by simpa using h5], rfl⟩
              case pos =>
                subst hnz
                have EB := Lib.hid (show bad8 kd 0 = false by simp only [bad8, hin, h5]; rfl)
                have SM := Lib.hid same_zero_yes
                clear hin
                go_wp2_with (first | (go_at_call 59; refine (L1.out _).mono ?_; rintro e w' ⟨rfl, rfl⟩) | (go_at_call 60; refine (SM.out _).mono ?_; rintro e w' ⟨rfl, rfl⟩))
                go_meet
                exact ⟨by rw [EB.out], rfl⟩
      case rest =>
      obtain ⟨rfl, rfl⟩ := hcut
      cases hb8 : bad8 kd nu with
      | true =>
        have NN := Lib.hid (NO.out (bad8_yes hb8 rfl rfl))
        clear hb8
        go_wp2_with fail
        go_ret2
        rw [NN.out]
        exact ⟨_, _, _, rfl, B1.out⟩
      | false =>
        have H8 := Lib.hid (bad8_no hb8)
        clear hb8
        by_cases h0 : kd = 0
        · as_aux_lemma =>
            subst h0
            obtain rfl : nu = 0 := by have := H8.out.2; omega
            have D1 := Lib.hid (fun W v (hb : vokB rw cl zd.length = v) (e0 : W.cell? ⟨g0, 4, none⟩ = some (.int .i64 rw)) e1 e2 => c_l02Is g0 4 rw cl a0 zd.length c0 v hb HZD.out W e0 e1 e2)
            by_cases ha : xa = 0
            case neg =>
              have NN := Lib.hid (NO.out (by rw [op_input rfl rfl]; simp [ha]))
              go_wp2_with fail
              go_ret2
              rw [NN.out]
              exact ⟨_, _, _, rfl, B1.out⟩
            case pos =>
            subst ha
            by_cases hb : xb = 0
            case neg =>
              have NN := Lib.hid (NO.out (by rw [op_input rfl rfl]; simp [hb]))
              go_wp2_with fail
              go_ret2
              rw [NN.out]
              exact ⟨_, _, _, rfl, B1.out⟩
            case pos =>
            subst hb
            cases hv : vokB rw cl zd.length with
            | false =>
              have NN := Lib.hid (NO.out (by rw [op_input rfl rfl]; simp [hv]))
              go_wp2_with (go_at_call 61; refine (D1.out _ false hv (by go_simp) (by go_simp) (by go_simp)).mono ?_; rintro e w' ⟨rfl, m, rfl⟩)
              go_ret2
              rw [NN.out]
              exact ⟨_, _, _, rfl, below_drewN B1.out _⟩
            | true =>
              have NX := Lib.hid (shUp_next HU.out HX.out (s := (rw, cl)) (by rw [op_input rfl rfl]; simp [hv]))
              go_upto_region 13 with (go_at_call 61; refine (D1.out _ true hv (by go_simp) (by go_simp) (by go_simp)).mono ?_; rintro e w' ⟨rfl, m, rfl⟩)
              have P2 := Lib.hid (P1.out.below (below_drewN (Below.refl _ _) m))
              have OO := Lib.hid (row_kept O1.out (below_drewN (Below.refl _ _) m))
              have BB := Lib.hid (below_drewN B1.out m)
              clear p0 p1 p2 p3 p4 p5 p6 pl
              generalize w1.drewN m = w2 at P2 OO BB ⊢
              obtain ⟨p0, p1, p2, p3, p4, p5, p6, pl⟩ := P2.out.tpbox
              have a3 := (Below.refl w2.heap.size w2).alloc (Nat.le_refl _) (.cells #[.int .i64 rw, .int .i64 cl, .slice none 0 0] 46)
              have R3 := Lib.hid (reads3 (Blk.new w2 46 #[.int .i64 rw, .int .i64 cl, .slice none 0 0]))
              have O3 := Lib.hid (row_kept OO.out a3)
              have B3 := Lib.hid (Below.next BB.out a3)
              clear a3
              go_wp2_with (at_builtin; refine wpList_append_any _ rfl (.tmp 60) (.tmp 68) 62 rfl w.heap.size 46 i0 (.agg #[.int .i64 0, .int .i64 0, .slice none 0 0]) 3 40 Try.underlying62 HI.out HZ0.out HZ1.out HZ2.out rfl (by omega) (.slice a k c) k (fl3 l) rfl O3.out _ (some ⟨w2.heap.size, 0, none⟩) 1 1 [.int .i64 rw, .int .i64 cl, .slice none 0 0] rfl R3.out (ones3 _ _) ?c1 ?c2 B3.out.size ?_)
              case c1 => have := H48.out; unfold maxLen; omega
              case c2 => have := H48.out; omega
              intro v' w7 hown hgr _
              go_wp2_with fail
              set_option maxRecDepth 200000 in
              go_roundw
              case rel => (repeat apply Exists.intro); exact ⟨msh_next rfl hk1 NX.out (by go_num) O3.out B3.out hown hgr, rfl⟩
              case measure => simp [intOf]; omega
        · have hk0 : (0 : Int) ≤ (k : Int) := by omega
          go_upto_region 14 with fail
          go_cut [104] from 17 to 175 (fun v wx => v = .bool (bad14 kd xa xb rw cl zd.length k) ∧ w1 = wx)
          case first =>
            as_aux_lemma =>
              have T2 := Lib.hid (fun W v h => c_l04TwoV kd v h W)
              have L2 := Lib.hid (fun W v h => c_l00In xa 0 ((k : Int) - 1) v h W)
              have L3 := Lib.hid (fun W v h => c_l00In xb 0 ((k : Int) - 1) v h W)
              have N1 := Lib.hid (fun W v hno e0 e1 e2 => c_l04NoneV g0 4 rw cl a0 zd.length c0 v hno W HZD.out e0 e1 e2)
              cases hno : noneB rw cl zd.length with
              | false =>
                have EB := Lib.hid (show bad14 kd xa xb rw cl zd.length k = true by simp [bad14, hno])
                go_wp2_with (go_at_call 62; refine (N1.out _ false hno (by go_simp) (by go_simp) (by go_simp)).mono ?_; rintro e w' ⟨rfl, rfl⟩)
                go_meet
                exact ⟨by rw [EB.out], rfl⟩
              | true =>
                have N2 := Lib.hid (N1.out w1 true hno p4 p5 p6)
                by_cases ha : 0 ≤ xa ∧ xa < (k : Int)
                case neg =>
                  have LA := Lib.hid (fun W => L2.out W false (Bool.eq_false_iff.2 (fun h => ha (by simp only [Bool.and_eq_true, decide_eq_true_eq] at h; omega))))
                  have EB := Lib.hid (show bad14 kd xa xb rw cl zd.length k = true by simp [bad14, hno]; omega)
                  clear ha hno
                  go_wp2_with (first | (go_at_call 62; refine N2.out.mono ?_; rintro e w' ⟨rfl, rfl⟩) | (go_at_call 59; refine (LA.out _).mono ?_; rintro e w' ⟨rfl, rfl⟩))
                  go_meet
                  exact ⟨by rw [EB.out], rfl⟩
                case pos =>
                have LA := Lib.hid (fun W => L2.out W true (by simp only [Bool.and_eq_true, decide_eq_true_eq]; omega))
                cases htw : tTwo kd with
                | true =>
                  have TT := Lib.hid (fun W => T2.out W true htw)
                  by_cases hb : 0 ≤ xb ∧ xb < (k : Int)
                  case neg =>
                    have LB := Lib.hid (fun W => L3.out W false (Bool.eq_false_iff.2 (fun h => hb (by simp only [Bool.and_eq_true, decide_eq_true_eq] at h; omega))))
                    have EB := Lib.hid (show bad14 kd xa xb rw cl zd.length k = true by simp [bad14, hno, htw]; omega)
                    clear ha hno htw hb
                    go_wp2_with (first | (go_at_call 62; refine N2.out.mono ?_; rintro e w' ⟨rfl, rfl⟩) | (go_at_call 59; (first | (with_reducible refine (LA.out _).mono ?_) | (with_reducible refine (LB.out _).mono ?_)); rintro e w' ⟨rfl, rfl⟩) | (go_at_call 38; refine (TT.out _).mono ?_; rintro e w' ⟨rfl, rfl⟩))
                    go_meet
                    exact ⟨by rw [EB.out], rfl⟩
                  case pos =>
                    have LB := Lib.hid (fun W => L3.out W true (by simp only [Bool.and_eq_true, decide_eq_true_eq]; omega))
                    have EB := Lib.hid (show bad14 kd xa xb rw cl zd.length k = false by simp [bad14, hno, htw]; omega)
                    clear ha hno htw hb
                    go_wp2_with (first | (go_at_call 62; refine N2.out.mono ?_; rintro e w' ⟨rfl, rfl⟩) | (go_at_call 59; (first | (with_reducible refine (LA.out _).mono ?_) | (with_reducible refine (LB.out _).mono ?_)); rintro e w' ⟨rfl, rfl⟩) | (go_at_call 38; refine (TT.out _).mono ?_; rintro e w' ⟨rfl, rfl⟩))
                    go_meet
                    exact ⟨by rw [EB.out], rfl⟩
                | false =>
                  have TT := Lib.hid (fun W => T2.out W false htw)
                  by_cases hb : xb = 0
                  case neg =>
                    have EB := Lib.hid (show bad14 kd xa xb rw cl zd.length k = true by simp [bad14, hno, htw, hb])
                    clear ha hno htw
                    go_wp2_with (first | (go_at_call 62; refine N2.out.mono ?_; rintro e w' ⟨rfl, rfl⟩) | (go_at_call 59; refine (LA.out _).mono ?_; rintro e w' ⟨rfl, rfl⟩) | (go_at_call 38; refine (TT.out _).mono ?_; rintro e w' ⟨rfl, rfl⟩))
                    go_meet
                    exact ⟨by rw [EB.out, show (xb != 0) = true by simpa using hb], rfl⟩
                  case pos =>
                    subst hb
                    have EB := Lib.hid (show bad14 kd xa 0 rw cl zd.length k = false by simp [bad14, hno, htw]; omega)
                    clear ha hno htw
                    go_wp2_with (first | (go_at_call 62; refine N2.out.mono ?_; rintro e w' ⟨rfl, rfl⟩) | (go_at_call 59; refine (LA.out _).mono ?_; rintro e w' ⟨rfl, rfl⟩) | (go_at_call 38; refine (TT.out _).mono ?_; rintro e w' ⟨rfl, rfl⟩))
                    go_meet
                    exact ⟨by rw [EB.out], rfl⟩
          case rest =>
          obtain ⟨rfl, rfl⟩ := hcut
          cases hb14 : bad14 kd xa xb rw cl zd.length k with
          | true =>
            have NN := Lib.hid (NO.out (bad14_yes HL.out h0 hb14))
            clear hb14
            go_wp2_with fail
            go_ret2
            rw [NN.out]
            exact ⟨_, _, _, rfl, B1.out⟩
          | false =>
            obtain ⟨hno, ⟨ha0, hak⟩, hbb⟩ := bad14_no hb14
            clear hb14
            have HNO := Lib.hid hno
            have HBB := Lib.hid hbb
            obtain ⟨XA, rfl⟩ := Int.eq_ofNat_of_zero_le ha0
            obtain ⟨XB, rfl⟩ : ∃ XB : Nat, xb = (XB : Int) := Int.eq_ofNat_of_zero_le (by split at hbb <;> omega)
            have hbk' : (XB : Int) < (k : Int) := by split at hbb <;> omega
            clear hno hbb
            have OG := Lib.hid (op_goes (p := ⟨kd, XA, XB, nu, rw, cl, zd⟩) (l := l) h0 H8.out.2 HNO.out (by rw [HL.out]; exact ⟨ha0, hak⟩) (by rw [HL.out]; exact HBB.out))
            obtain ⟨g, rfl, hgw, hkc, hcel⟩ := row3_at O1.out (by omega) HL.out
            obtain ⟨⟨va1, va2⟩, hva⟩ : ∃ s, l.getD XA (0, 0) = s := ⟨_, rfl⟩
            obtain ⟨⟨vb1, vb2⟩, hvb⟩ : ∃ s, l.getD XB (0, 0) = s := ⟨_, rfl⟩
            have CEL := Lib.hid (fun (W : World) (hr : W.ownsRow w.heap.size 46 3 (.slice (some ⟨g, 0, none⟩) k c) k (fl3 l)) => row3_two hr HL.out (show XA < k by omega) (show XB < k by omega) hva hvb)
            have HVA := Lib.hid hva
            have HVB := Lib.hid hvb
            clear hva hvb hcel ha0
            obtain ⟨⟨c1, c2, c3⟩, c4, c5, c6⟩ := CEL.out w1 O1.out
            go_upto_region 17 with fail
            have bA := (Below.refl w1.heap.size w1).alloc (Nat.le_refl _) (.cells #[.int .i64 va1, .int .i64 va2, .slice none 0 0] 46)
            have A2 := Lib.hid (Blk.new w1 46 #[.int .i64 va1, .int .i64 va2, .slice none 0 0])
            have P2 := Lib.hid (P1.out.below bA)
            have O2 := Lib.hid (row_kept O1.out bA)
            have B2 := Lib.hid (Below.next B1.out bA)
            clear bA p0 p1 p2 p3 p4 p5 p6 pl c1 c2 c3 c4 c5 c6
            obtain ⟨gA, hgA⟩ : ∃ gA, w1.heap.size = gA := ⟨_, rfl⟩
            rw [hgA] at A2 ⊢
            generalize w1.alloc (.cells #[.int .i64 va1, .int .i64 va2, .slice none 0 0] 46) = w2 at A2 P2 O2 B2 ⊢
            obtain ⟨p0, p1, p2, p3, p4, p5, p6, pl⟩ := P2.out.tpbox
            obtain ⟨⟨c1, c2, c3⟩, c4, c5, c6⟩ := CEL.out w2 O2.out
            go_upto_region 19 with fail
            have bA := (Below.refl w2.heap.size w2).alloc (Nat.le_refl _) (.cells #[.int .i64 vb1, .int .i64 vb2, .slice none 0 0] 46)
            have Z3 := Lib.hid (Blk.new w2 46 #[.int .i64 vb1, .int .i64 vb2, .slice none 0 0])
            have A3 := Lib.hid (A2.out.below bA)
            have P3 := Lib.hid (P2.out.below bA)
            have O3 := Lib.hid (row_kept O2.out bA)
            have B3 := Lib.hid (Below.next B2.out bA)
            clear bA p0 p1 p2 p3 p4 p5 p6 pl c1 c2 c3 c4 c5 c6
            obtain ⟨gB, hgB⟩ : ∃ gB, w2.heap.size = gB := ⟨_, rfl⟩
            rw [hgB] at Z3 ⊢
            generalize w2.alloc (.cells #[.int .i64 vb1, .int .i64 vb2, .slice none 0 0] 46) = w3 at Z3 A3 P3 O3 B3 ⊢
            obtain ⟨p0, p1, p2, p3, p4, p5, p6, pl⟩ := P3.out.tpbox
            obtain ⟨c1, c2, c3, c4⟩ := tnb3 A3.out
            go_upto_region 20 with fail
            have bA := (Below.refl w3.heap.size w3).alloc (Nat.le_refl _) (.cells #[.int .i64 va1, .int .i64 va2, .slice none 0 0] 46)
            have C4 := Lib.hid (Blk.new w3 46 #[.int .i64 va1, .int .i64 va2, .slice none 0 0])
            have Z4 := Lib.hid (Z3.out.below bA)
            have A4 := Lib.hid (A3.out.below bA)
            have P4 := Lib.hid (P3.out.below bA)
            have O4 := Lib.hid (row_kept O3.out bA)
            have B4 := Lib.hid (Below.next B3.out bA)
            have HGC := Lib.hid (show g < w3.heap.size from (ownsRow_lt O3.out g (by simp [blk])).2)
            have HG3 := Lib.hid (show w.heap.size ≤ w3.heap.size from B3.out.size)
            clear bA p0 p1 p2 p3 p4 p5 p6 pl c1 c2 c3 c4
            obtain ⟨gC, hgC⟩ : ∃ gC, w3.heap.size = gC := ⟨_, rfl⟩
            rw [hgC] at C4 HGC HG3 ⊢
            generalize w3.alloc (.cells #[.int .i64 va1, .int .i64 va2, .slice none 0 0] 46) = w4 at C4 Z4 A4 P4 O4 B4 ⊢
            obtain ⟨p0, p1, p2, p3, p4, p5, p6, pl⟩ := P4.out.tpbox
            go_upto_block 2 with fail
            obtain ⟨x0, x1, x2, xl⟩ := tnb3 A4.out
            obtain ⟨y0, y1, y2, yl⟩ := tnb3 Z4.out
            obtain ⟨z0, z1, z2, zl⟩ := tnb3 C4.out
            obtain ⟨k0, k1, k2⟩ := tnf3 C4.out
            clear p0 p1 p2 p3 p4 p5 p6
            obtain ⟨⟨⟨t1, t2⟩, ok⟩, hsa⟩ : ∃ s, shapeA kd rw cl zd.length (va1, va2) (vb1, vb2) = s := ⟨_, rfl⟩
            have HSA := Lib.hid hsa
            go_cut [9] from 17 to 175 (fun v wx => SwEnd w4 gC (t1, t2) ok v wx)
            case first =>
              as_aux_lemma =>
                have hin := H8.out.1
                simp only [Bool.and_eq_true, decide_eq_true_eq] at hin
                have hkk : kd = 1 ∨ kd = 2 ∨ kd = 3 ∨ kd = 4 ∨ kd = 5 ∨ kd = 6 ∨ kd = 7 ∨ kd = 8 ∨ kd = 9 ∨ kd = 10 := by omega
                clear hin h0
                rcases hkk with rfl | rfl | rfl | rfl | rfl | rfl | rfl | rfl | rfl | rfl
                · skip
                  by_cases e1 : va1 = vb1
                  case neg =>
                    have hs2 : shapeA 1 rw cl zd.length (va1, va2) (vb1, vb2) = ((va1, va2), false) := by simp [shapeA, e1]
                    rw [hs2] at hsa
                    cases hsa
                    clear hs2
                    go_wp2_with fail
                    go_meet
                    exact ⟨rfl, C4.out, grown_same _ _⟩
                  case pos =>
                  by_cases e2 : va2 = vb2
                  case neg =>
                    have hs2 : shapeA 1 rw cl zd.length (va1, va2) (vb1, vb2) = ((va1, va2), false) := by simp [shapeA, e2]
                    rw [hs2] at hsa
                    cases hsa
                    clear hs2
                    go_wp2_with fail
                    go_meet
                    exact ⟨by rw [show (va2 == vb2) = false from beq_eq_false_iff_ne.2 e2], C4.out, grown_same _ _⟩
                  case pos =>
                  have hs2 : shapeA 1 rw cl zd.length (va1, va2) (vb1, vb2) = ((va1, va2), true) := by simp [shapeA, e1, e2]
                  rw [hs2] at hsa
                  cases hsa
                  clear hs2
                  go_wp2_with fail
                  go_meet
                  exact ⟨rfl, C4.out, grown_same _ _⟩
                · skip
                  by_cases e1 : vb1 = 1
                  case neg =>
                    have hs2 : shapeA 2 rw cl zd.length (va1, va2) (vb1, vb2) = ((va1, va2), false) := by simp [shapeA, e1]
                    rw [hs2] at hsa
                    cases hsa
                    clear hs2
                    go_wp2_with fail
                    go_meet
                    exact ⟨rfl, C4.out, grown_same _ _⟩
                  case pos =>
                  by_cases e2 : va2 = vb2
                  case neg =>
                    have hs2 : shapeA 2 rw cl zd.length (va1, va2) (vb1, vb2) = ((va1, va2), false) := by simp [shapeA, Ne.symm e2]
                    rw [hs2] at hsa
                    cases hsa
                    clear hs2
                    go_wp2_with fail
                    go_meet
                    exact ⟨by rw [show (va2 == vb2) = false from beq_eq_false_iff_ne.2 e2], C4.out, grown_same _ _⟩
                  case pos =>
                  have hs2 : shapeA 2 rw cl zd.length (va1, va2) (vb1, vb2) = ((va1, va2), true) := by simp [shapeA, e1, e2]
                  rw [hs2] at hsa
                  cases hsa
                  clear hs2
                  go_wp2_with fail
                  go_meet
                  exact ⟨rfl, C4.out, grown_same _ _⟩
                · skip
                  by_cases e1 : va1 = vb1
                  case neg =>
                    have hs2 : shapeA 3 rw cl zd.length (va1, va2) (vb1, vb2) = ((va1, va2), false) := by simp [shapeA, e1]
                    rw [hs2] at hsa
                    cases hsa
                    clear hs2
                    go_wp2_with fail
                    go_meet
                    exact ⟨rfl, C4.out, grown_same _ _⟩
                  case pos =>
                  by_cases e2 : va2 = vb2
                  case neg =>
                    have hs2 : shapeA 3 rw cl zd.length (va1, va2) (vb1, vb2) = ((va1, va2), false) := by simp [shapeA, e2]
                    rw [hs2] at hsa
                    cases hsa
                    clear hs2
                    go_wp2_with fail
                    go_meet
                    exact ⟨by rw [show (va2 == vb2) = false from beq_eq_false_iff_ne.2 e2], C4.out, grown_same _ _⟩
                  case pos =>
                  have hs2 : shapeA 3 rw cl zd.length (va1, va2) (vb1, vb2) = ((va1, va2), true) := by simp [shapeA, e1, e2]
                  rw [hs2] at hsa
                  cases hsa
                  clear hs2
                  go_wp2_with fail
                  go_meet
                  exact ⟨rfl, C4.out, grown_same _ _⟩
                · skip
                  by_cases e1 : vb1 = 1
                  case neg =>
                    have hs2 : shapeA 4 rw cl zd.length (va1, va2) (vb1, vb2) = ((va1, va2), false) := by simp [shapeA, e1]
                    rw [hs2] at hsa
                    cases hsa
                    clear hs2
                    go_wp2_with fail
                    go_meet
                    exact ⟨rfl, C4.out, grown_same _ _⟩
                  case pos =>
                  by_cases e2 : va2 = vb2
                  case neg =>
                    have hs2 : shapeA 4 rw cl zd.length (va1, va2) (vb1, vb2) = ((va1, va2), false) := by simp [shapeA, Ne.symm e2]
                    rw [hs2] at hsa
                    cases hsa
                    clear hs2
                    go_wp2_with fail
                    go_meet
                    exact ⟨by rw [show (va2 == vb2) = false from beq_eq_false_iff_ne.2 e2], C4.out, grown_same _ _⟩
                  case pos =>
                  have hs2 : shapeA 4 rw cl zd.length (va1, va2) (vb1, vb2) = ((va1, va2), true) := by simp [shapeA, e1, e2]
                  rw [hs2] at hsa
                  cases hsa
                  clear hs2
                  go_wp2_with fail
                  go_meet
                  exact ⟨rfl, C4.out, grown_same _ _⟩
                · skip
                  have hs2 : shapeA 5 rw cl zd.length (va1, va2) (vb1, vb2) = ((va1, va2), true) := by simp [shapeA]
                  rw [hs2] at hsa
                  cases hsa
                  clear hs2
                  go_wp2_with fail
                  go_meet
                  exact ⟨rfl, C4.out, grown_same _ _⟩
                · skip
                  by_cases e1 : va2 = vb1
                  case neg =>
                    have hs2 : shapeA 6 rw cl zd.length (va1, va2) (vb1, vb2) = ((va1, vb2), false) := by simp [shapeA, e1]
                    rw [hs2] at hsa
                    cases hsa
                    clear hs2
                    have ST := Lib.hid (store_tn3 (u0 := .int .i64 va1) (u1 := .int .i64 vb2) (u2 := .slice none 0 0) C4.out)
                    go_wp2_with fail
                    go_meet
                    exact ⟨by rw [show (va2 == vb1) = false from beq_eq_false_iff_ne.2 e1], ST.out.1, ST.out.2⟩
                  case pos =>
                  have hs2 : shapeA 6 rw cl zd.length (va1, va2) (vb1, vb2) = ((va1, vb2), true) := by simp [shapeA, e1]
                  rw [hs2] at hsa
                  cases hsa
                  clear hs2
                  have ST := Lib.hid (store_tn3 (u0 := .int .i64 va1) (u1 := .int .i64 vb2) (u2 := .slice none 0 0) C4.out)
                  go_wp2_with fail
                  go_meet
                  exact ⟨rfl, ST.out.1, ST.out.2⟩
                · skip
                  have hs2 : shapeA 7 rw cl zd.length (va1, va2) (vb1, vb2) = ((va2, va1), true) := by simp [shapeA]
                  rw [hs2] at hsa
                  cases hsa
                  clear hs2
                  have ST := Lib.hid (store_tn3 (u0 := .int .i64 va2) (u1 := .int .i64 va1) (u2 := .slice none 0 0) C4.out)
                  go_wp2_with fail
                  go_meet
                  exact ⟨rfl, ST.out.1, ST.out.2⟩
                · skip
                  have hs2 : shapeA 8 rw cl zd.length (va1, va2) (vb1, vb2) = ((va1, va2), true) := by simp [shapeA]
                  rw [hs2] at hsa
                  cases hsa
                  clear hs2
                  go_wp2_with fail
                  go_meet
                  exact ⟨rfl, C4.out, grown_same _ _⟩
                · skip
                  have hs2 : shapeA 9 rw cl zd.length (va1, va2) (vb1, vb2) = ((va1, va2), true) := by simp [shapeA]
                  rw [hs2] at hsa
                  cases hsa
                  clear hs2
                  go_wp2_with fail
                  go_meet
                  exact ⟨rfl, C4.out, grown_same _ _⟩
                · skip
                  have hs2 : shapeA 10 rw cl zd.length (va1, va2) (vb1, vb2) = ((1, 1), true) := by simp [shapeA]
                  rw [hs2] at hsa
                  cases hsa
                  clear hs2
                  have ST := Lib.hid (store_tn3 (u0 := .int .i64 1) (u1 := .int .i64 1) (u2 := .slice none 0 0) C4.out)
                  go_wp2_with fail
                  go_meet
                  exact ⟨rfl, ST.out.1, ST.out.2⟩
            case rest =>
              as_aux_lemma =>
              clear x0 x1 x2 y0 y1 y2 z0 z1 z2 k0 k1 k2 hsa
              have HC := Lib.hid hcut
              obtain rfl := hcut.1
              have O5 := Lib.hid (O4.out.kept HC.out.2.2 (.inr (fun e => by rw [ownBlock_slice] at e; simp [blk] at e; have := HGC.out; omega)))
              have B5 := Lib.hid (Below.grown B4.out HC.out.2.2 B4.out.size (fun j hj => by have := HG3.out; injection hj with hj; omega))
              obtain ⟨z0, z1, z2, zl'⟩ := tnb3 HC.out.2.1
              clear hcut xl yl zl pl
              cases ok with
              | false =>
                have NN := Lib.hid (NO.out (by rw [OG.out]; simp only [Int.toNat_natCast]; rw [HVA.out, HVB.out, HSA.out]; rfl))
                go_wp2_with fail
                go_ret2
                rw [NN.out]
                exact ⟨_, _, _, rfl, B5.out⟩
              | true =>
                have NX := Lib.hid (shUp_next HU.out HX.out (s := (t1, t2)) (by rw [OG.out]; simp only [Int.toNat_natCast]; rw [HVA.out, HVB.out, HSA.out]; rfl))
                go_upto_region 36 with fail
                have a3 := (Below.refl wc.heap.size wc).alloc (Nat.le_refl _) (.cells #[.int .i64 t1, .int .i64 t2, .slice none 0 0] 46)
                have R3 := Lib.hid (reads3 (Blk.new wc 46 #[.int .i64 t1, .int .i64 t2, .slice none 0 0]))
                have O6 := Lib.hid (row_kept O5.out a3)
                have B6 := Lib.hid (Below.next B5.out a3)
                clear a3
                go_wp2_with (at_builtin; refine wpList_append_any _ rfl (.tmp 172) (.tmp 174) 62 rfl w.heap.size 46 i0 (.agg #[.int .i64 0, .int .i64 0, .slice none 0 0]) 3 40 Try.underlying62 HI.out HZ0.out HZ1.out HZ2.out rfl (by omega) (.slice (some ⟨g, 0, none⟩) k c) k (fl3 l) rfl O6.out _ (some ⟨wc.heap.size, 0, none⟩) 1 1 [.int .i64 t1, .int .i64 t2, .slice none 0 0] rfl R3.out (ones3 _ _) ?c3 ?c4 B6.out.size ?_)
                case c3 => have := H48.out; unfold maxLen; omega
                case c4 => have := H48.out; omega
                intro v' w7 hown hgr _
                go_wp2_with fail
                set_option maxRecDepth 200000 in
                go_roundw
                case rel => (repeat apply Exists.intro); exact ⟨msh_next rfl hk1 NX.out (by go_num) O6.out B6.out hown hgr, rfl⟩
                case measure => simp [intOf]; omega
    · obtain rfl : k = n := by omega
      clear hlt
      go_wp2_with fail
      go_ret2
      rw [HU.out]
      exact ⟨a, c, by rw [HL.out]; rfl, by rw [HL.out]; exact HO.out, HB.out⟩
end Go.Proofs.Ytdgoladbkaldkaa
