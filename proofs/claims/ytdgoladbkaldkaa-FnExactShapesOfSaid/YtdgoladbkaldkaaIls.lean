/-
  Words for lists of lists of whole numbers: reading, comparing, marking and looking again. Conditions: the cells can be read.
-/
import Derived.Test.YtdgoladbkaldkaaSSk
import Derived.Test.YtdgoladbkaldkaaInl
namespace Go.Proofs.Ytdgoladbkaldkaa
open Go.RowKit Go.Deep Go.WideShapes Go.ChangeShapes
set_option linter.unusedVariables false

theorem row_below {w w' : World} {a : Option Addr} {n c : Nat} {z : List Int} (h : IsRow .i64 w a n c z) (hb : Below w.heap.size w w') : IsRow .i64 w' a n c z := by
  obtain ⟨h1, h2, h3, h4, h5⟩ := h
  refine ⟨h1, h2, h3, h4, ?_⟩
  rcases h5 with h0 | ⟨b, off, ha, hlt, hc⟩
  · exact .inl h0
  · refine .inr ⟨b, off, ha, Nat.lt_of_lt_of_le hlt hb.size, fun i hi => ?_⟩
    rw [hb.cell (p := ⟨b, off + i, none⟩) hlt]
    exact hc i hi
structure IlA where
  z : List Int
  a : Option Addr
  c : Nat
def IlA.cl (x : IlA) : Cl := inC x.a x.c x.z
def IlA.v (x : IlA) : Value := .slice x.a x.z.length x.c
def ilC (ls : List IlA) : List Cl := ls.map IlA.cl
def ilN (zs : List (List Int)) : Nat := (zs.map List.length).sum
theorem ilC_length (ls : List IlA) : (ilC ls).length = ls.length := by simp [ilC]
theorem ilC_append (a b : List IlA) : ilC (a ++ b) = ilC a ++ ilC b := by simp [ilC]
theorem ilC_cons (x : IlA) (b : List IlA) : ilC (x :: b) = x.cl :: ilC b := rfl
theorem vs_ilC (ls : List IlA) : vs (ilC ls) = ls.map IlA.v := by simp [vs, ilC, IlA.cl, Cl.v, inC, IlA.v, Function.comp_def]
theorem ilC_own {w : World} {B : Nat} {ls : List IlA} : OwnL w B (ilC ls) ↔ ∀ x ∈ ls, OwnL w B [inC x.a x.c x.z] := by
  simp only [OwnL_iff, ilC, List.mem_map, IlA.cl]
  constructor
  · intro h x hx; simpa using h _ ⟨x, hx, rfl⟩
  · rintro h _ ⟨x, hx, rfl⟩; simpa using h x hx
def wfI (ls : List IlA) : Prop := ∀ x ∈ ls, ∀ y ∈ x.z, (Lit.int .i64 y).wf = true
def wfZ (zs : List (List Int)) : Prop := ∀ z ∈ zs, ∀ y ∈ z, (Lit.int .i64 y).wf = true
theorem wf_of {ls : List IlA} {zs : List (List Int)} (h : ls.map (fun x => x.z) = zs) (hw : wfZ zs) : wfI ls := fun x hx => hw x.z (by rw [← h]; exact List.mem_map_of_mem hx)
theorem blL_il (x : IlA) (b : List IlA) : blL (ilC (x :: b)) = (blk x.a).toList ++ blL (ilC b) := by have := inC_bl x.a x.c x.z; simp only [blL, List.append_nil] at this; simp only [ilC_cons, blL, IlA.cl, this]
def IlsAt (w : World) (g : Option Addr) (n cap : Nat) (ls : List IlA) : Prop :=
  ls.length = n ∧ n ≤ cap ∧ cap ≤ maxLen ∧ (∀ x ∈ ls, IsRow .i64 w x.a x.z.length x.c x.z) ∧ (n = 0 ∨ ∃ b off, g = some ⟨b, off, none⟩ ∧ b < w.heap.size ∧ ∀ i x, ls[i]? = some x → w.cell? ⟨b, off + i, none⟩ = some x.v)
theorem IlsAt.kept {w w' : World} {g : Option Addr} {n cap : Nat} {ls : List IlA} (h : IlsAt w g n cap ls) (hb : Below w.heap.size w w') : IlsAt w' g n cap ls := by
  obtain ⟨h1, h2, h3, h4, h5⟩ := h
  refine ⟨h1, h2, h3, fun x hx => row_below (h4 x hx) hb, ?_⟩
  rcases h5 with h0 | ⟨b, off, e, hlt, hc⟩
  · exact .inl h0
  · exact .inr ⟨b, off, e, Nat.lt_of_lt_of_le hlt hb.size, fun i x hx => by rw [hb.cell (p := ⟨b, off + i, none⟩) hlt]; exact hc i x hx⟩
theorem IlsAt.one {w : World} {g : Option Addr} {n cap : Nat} {ls : List IlA} (h : IlsAt w g n cap ls) {i : Nat} (hi : i < n) :
    ∃ (b off : Nat) (z : List Int) (a : Option Addr) (c : Nat), g = some ⟨b, off, none⟩ ∧ b < w.heap.size ∧ ls[i]? = some ⟨z, a, c⟩ ∧ w.cell? ⟨b, off + i, none⟩ = some (.slice a z.length c) ∧ IsRow .i64 w a z.length c z := by
  obtain ⟨h1, h2, h3, h4, h5⟩ := h
  have hx : ls[i]? = some ls[i] := List.getElem?_eq_getElem (by omega)
  obtain ⟨x, hx'⟩ : ∃ x, ls[i] = x := ⟨_, rfl⟩
  rw [hx'] at hx
  rcases h5 with h0 | ⟨b, off, e, hlt, hc⟩
  · omega
  · obtain ⟨z, a, c⟩ := x
    exact ⟨b, off, z, a, c, e, hlt, hx, hc i _ hx, h4 _ (List.mem_of_getElem? hx)⟩
theorem ilsAt_own {w : World} {B : Nat} {t : TypeId} {g : Option Addr} {n c : Nat} {ls : List IlA} (hl : ls.length = n) (h : OwnL w B [.sl t 1 n g c (ilC ls)]) (hw : wfI ls) : IlsAt w g n c ls := by
  subst hl
  have hr := h.1.1
  have hx := ilC_own.1 h.1.2
  have h1 := (OwnL.at _ h).1
  simp only [Cl.At, Nat.mul_one, vs_ilC] at h1
  obtain ⟨⟨h2, h3, _, h5⟩, h6⟩ := h1
  refine ⟨rfl, h2, h3, fun x hm => inL_row (hx x hm) (hw x hm), ?_⟩
  rcases h5 with h0 | ⟨b, off, e, hlt, hc⟩
  · exact .inl h0
  · refine .inr ⟨b, off, e, hlt, fun i x hx => ?_⟩
    rw [hc i (List.getElem?_eq_some_iff.1 hx).1]
    simp [hx]

def EqIlRel (n : Nat) (w : World) (iv : Value) (wr : World) : Prop := ∃ k : Nat, k ≤ n ∧ iv = .int .i64 k ∧ Below w.heap.size w wr
theorem can_atIl {ls ls' : List IlA} {i : Nat} {x y : IlA} (hp : ls.map (fun x => x.z) = ls'.map (fun x => x.z)) (hx : ls[i]? = some x) (hy : ls'[i]? = some y) : x.z = y.z := by
  have h1 : (ls.map (fun x => x.z))[i]? = (ls'.map (fun x => x.z))[i]? := by rw [hp]
  simpa [hx, hy] using h1
set_option maxRecDepth 20000 in
set_option maxHeartbeats 1000000 in
theorem c_eqIls (g g' : Option Addr) (cap cap' n : Nat) (ls ls' : List IlA) (w : World) (h : IlsAt w g n cap ls) (h' : IlsAt w g' n cap' ls') (hp : ls.map (fun x => x.z) = ls'.map (fun x => x.z)) :
    Calls Try.prog 14 #[.slice g n cap, .slice g' n cap'] w fun e w' => e = .returned (.bool true) ∧ Below w.heap.size w w' := by
  have hnm : n ≤ 9223372036854775807 := by have h1 := h.2.1; have h2 := h.2.2.1; unfold maxLen at h2; omega
  have H := Lib.hid h
  have H' := Lib.hid h'
  have HP := Lib.hid hp
  clear h h' hp
  go_enter Try.func14, Try.ntmps14
  go_wp2
  go_loopw [5] (fun iv wr => EqIlRel n w iv wr) (fun iv _ => n - (intOf iv).toNat)
  case atStart => exact ⟨0, Nat.zero_le _, rfl, Below.refl _ _⟩
  case round =>
    obtain ⟨k, hk, rfl, hb⟩ := hrel
    have HB := Lib.hid hb
    clear hb
    by_cases hlt : k < n
    · obtain ⟨b, off, z, a, c, rfl, hbk, hx, q, f⟩ := (H.out.kept HB.out).one hlt
      obtain ⟨b', off', z', a', c', rfl, hbk', hx', q', f'⟩ := (H'.out.kept HB.out).one hlt
      have HC := Lib.hid (can_atIl HP.out hx hx')
      have HF := Lib.hid f
      have HF' := Lib.hid f'
      clear f f' hx hx'
      have hlt' : (k : Int) < (n : Int) := by omega
      have hk0 : (0 : Int) ≤ (k : Int) := by omega
      have BD := Lib.hid ((Below.refl wr.heap.size wr).drew)
      go_wp2_with fail
      go_region_held3 (fun w' => w'.cell? ⟨b, off + k, none⟩ = some (.slice a z.length c) ∧ w'.cell? ⟨b', off' + k, none⟩ = some (.slice a' z'.length c')) (go_keep)
        (first
          | (go_at_call 20
             refine (c_eqInts a a' c c' z z' _ (row_below HF.out BD.out) (row_below HF'.out BD.out) HC.out).mono ?_
             rintro e w2 ⟨rfl, dn⟩
             have bl := dn.below
             have HB2 := Lib.hid (HB.out.drew.trans (bl.mono HB.out.size))
             have r := (bl.cell (p := ⟨b, off + k, none⟩) hbk).trans q
             have r' := (bl.cell (p := ⟨b', off' + k, none⟩) hbk').trans q'
             clear bl dn))
      all_goals
        go_wp2_with fail
        go_roundw
        case rel => exact ⟨k + 1, by omega, by go_num, HB2.out⟩
        case measure => simp [intOf]; omega
    · obtain rfl : k = n := by omega
      go_wp2
      go_ret
      exact ⟨rfl, HB.out⟩
/-! marks -/
def mkIl (k : Nat) : List IlA → List IlA
  | [] => []
  | x :: xs => ⟨marksI k x.z.length, x.a, x.c⟩ :: mkIl (k + x.z.length) xs
def cntIl (ls : List IlA) : Nat := (ls.map fun x => x.z.length).sum
theorem cntIl_cons (x : IlA) (xs : List IlA) : cntIl (x :: xs) = x.z.length + cntIl xs := by simp [cntIl]
theorem cntIl_append (a b : List IlA) : cntIl (a ++ b) = cntIl a + cntIl b := by simp [cntIl]
theorem mkIl_append (k : Nat) (a b : List IlA) : mkIl k (a ++ b) = mkIl k a ++ mkIl (k + cntIl a) b := by
  induction a generalizing k with
  | nil => simp [mkIl, cntIl]
  | cons x xs ih =>
    simp only [List.cons_append, mkIl, ih, cntIl_cons, Nat.add_assoc]
theorem mkIl_length (k : Nat) (a : List IlA) : (mkIl k a).length = a.length := by
  induction a generalizing k with
  | nil => rfl
  | cons x xs ih => simp [mkIl, ih]
theorem mkIl_v (k : Nat) (a : List IlA) : (mkIl k a).map IlA.v = a.map IlA.v := by
  induction a generalizing k with
  | nil => rfl
  | cons x xs ih => simp [mkIl, ih, IlA.v, marksI_length]
theorem bl_mkIl (k : Nat) (a : List IlA) : blL (ilC (mkIl k a)) = blL (ilC a) := by
  induction a generalizing k with
  | nil => rfl
  | cons x xs ih => simp only [mkIl, blL_il, ih]
theorem mkIl_get {k i : Nat} {ls : List IlA} {x : IlA} (h : ls[i]? = some x) : (mkIl k ls)[i]? = some ⟨marksI (k + cntIl (ls.take i)) x.z.length, x.a, x.c⟩ := by
  induction ls generalizing k i with
  | nil => simp at h
  | cons y ys ih =>
    cases i with
    | zero => simp only [List.getElem?_cons_zero, Option.some.injEq] at h; subst h; simp [mkIl, cntIl]
    | succ i =>
      simp only [List.getElem?_cons_succ] at h
      simp only [mkIl, List.getElem?_cons_succ, ih h, List.take_succ_cons, cntIl_cons, Nat.add_assoc]
theorem cntIl_take {ls : List IlA} {i : Nat} {x : IlA} (h : ls[i]? = some x) : cntIl (ls.take (i + 1)) = cntIl (ls.take i) + x.z.length := by
  rw [List.take_add_one, h, cntIl_append]
  simp [cntIl]
theorem cntIl_le (ls : List IlA) (i : Nat) : cntIl (ls.take i) ≤ cntIl ls := by
  have h : ls = ls.take i ++ ls.drop i := (List.take_append_drop _ _).symm
  have h2 : cntIl ls = cntIl (ls.take i) + cntIl (ls.drop i) := by rw [← cntIl_append, ← h]
  omega
theorem dis_Il {A B C D : List Nat} (h : (A ++ (B ++ (C ++ D))).Nodup) : (∀ g ∈ C, g ∉ A) ∧ (∀ g ∈ C, g ∉ B) ∧ (∀ g ∈ C, g ∉ D) := by
  simp only [List.nodup_append, List.mem_append] at h
  obtain ⟨_, ⟨_, ⟨_, _, h3⟩, h2⟩, h1⟩ := h
  exact ⟨fun g h' h => h1 g h g (.inr (.inl h')) rfl, fun g h' h => h2 g h g (.inl h') rfl, fun g h' h => h3 g h' g h rfl⟩
def MkIlRel (gs : Option Addr) (cap n k B : Nat) (ls : List IlA) (w : World) (kv iv : Value) (wr : World) : Prop :=
  ∃ (pre post : List IlA), ls = pre ++ post ∧ iv = .int .i64 (pre.length : Int) ∧ kv = .int .i64 ((k + cntIl pre : Nat) : Int) ∧ wr.ownsRow B 35 1 (.slice gs n cap) n (ls.map IlA.v) ∧
    OwnL wr B (ilC (mkIl k pre)) ∧ OwnL wr B (ilC post) ∧ GrownIn w wr (blL (ilC ls))
def HeldIlRel (n k : Nat) (ls : List IlA) (w : World) (kv iv : Value) (wr : World) : Prop := ∃ j : Nat, j ≤ n ∧ iv = .int .i64 j ∧ kv = .int .i64 ((k + cntIl (ls.take j) : Nat) : Int) ∧ wr = w
set_option maxRecDepth 20000 in
set_option maxHeartbeats 4000000 in
theorem c_markIls (gs : Option Addr) (cap n k m B : Nat) (ls : List IlA) (w : World) (hw : wfI ls) (hn : ls.length = n) (ho : OwnL w B [.sl 35 1 n gs cap (ilC ls)]) (hnd : (blL [.sl 35 1 n gs cap (ilC ls)]).Nodup)
    (hm : k + cntIl ls = m) (hm2 : m ≤ 8388608) (hsz : cntIl ls ≤ 1048576) (hnm : n ≤ 1048576) :
    Calls Try.prog 16 #[.slice gs n cap, .int .i64 k] w fun e w' => e = .returned (.int .i64 (m : Int)) ∧ OwnL w' B [.sl 35 1 n gs cap (ilC (mkIl k ls))] ∧ GrownIn w w' (blL [.sl 35 1 n gs cap (ilC ls)]) := by
  have hrow := ho.1.1
  have hown := ho.1.2
  rw [vs_ilC] at hrow
  simp only [blL, Cl.bl, List.append_nil] at hnd ⊢
  have HN := Lib.hid hn
  have HWF := Lib.hid hw
  have HR := Lib.hid hrow
  have HO := Lib.hid hown
  have HD := Lib.hid hnd
  have HM := Lib.hid hm
  have HM2 := Lib.hid hm2
  have HSZ := Lib.hid hsz
  clear hn hrow hown hnd hm hm2 hsz ho
  go_enter Try.func16, Try.ntmps16
  go_wp2
  go_loopw [1, 5] (fun kv iv wr => MkIlRel gs cap n k B ls w kv iv wr) (fun _ iv _ => n - (intOf iv).toNat)
  case atStart => exact ⟨[], ls, rfl, rfl, by simp [cntIl], HR.out, by simp [mkIl, ilC, OwnL], HO.out, GrownIn.refl _ _⟩
  case round =>
    obtain ⟨pre, post, rfl, rfl, rfl, hrow, hpre, hpost, hg⟩ := hrel
    have HRW := Lib.hid hrow
    have HPR := Lib.hid hpre
    have HPO := Lib.hid hpost
    have HG := Lib.hid hg
    obtain ⟨j, hj⟩ : ∃ j, pre.length = j := ⟨_, rfl⟩
    have HJ := Lib.hid hj
    rw [hj]
    have hnl := HN.out
    rw [List.length_append, hj] at hnl
    have hjn : j ≤ n := by omega
    obtain ⟨kk, hkk⟩ : ∃ kk, k + cntIl pre = kk := ⟨_, rfl⟩
    have HKK := Lib.hid hkk
    rw [hkk]
    clear hrow hpre hpost hg hj
    by_cases hlt : j < n
    · cases post with
      | nil => simp at hnl; omega
      | cons x post =>
        obtain ⟨z, a, c⟩ := x
        have hcm := HM.out
        rw [cntIl_append, cntIl_cons] at hcm
        dsimp only at hcm
        have hlt' : (j : Int) < (n : Int) := by omega
        obtain ⟨g, rfl⟩ : ∃ g, gs = some ⟨g, 0, none⟩ := by
          rcases HRW.out.2 with ⟨hv, h0⟩ | ⟨g, c, cur, hv, _⟩
          · omega
          · simp only [Value.slice.injEq] at hv; exact ⟨g, hv.1⟩
        have hcell : wr.cell? ⟨g, j, none⟩ = some (.slice a z.length c) := by
          rw [HRW.out.cellAt j (by omega), List.map_append, List.getElem?_append_right (by rw [List.length_map, HJ.out]; omega), List.length_map, HJ.out, Nat.sub_self]
          rfl
        have hpo := HPO.out
        rw [ilC_own] at hpo
        have HX := Lib.hid (hpo ⟨z, a, c⟩ (List.mem_cons_self ..))
        have HPP := Lib.hid (ilC_own.2 fun y hy => hpo y (List.mem_cons_of_mem _ hy))
        have hd := HD.out
        rw [ilC_append, blL_append, blL_il] at hd
        have HDD := Lib.hid (dis_Il hd)
        obtain ⟨kn, hkn⟩ : ∃ kn, kk + z.length = kn := ⟨_, rfl⟩
        have HKN := Lib.hid hkn
        have hk4 : kk ≤ 8388608 := by have := HM2.out; omega
        have hzl : z.length ≤ 1048576 := by
          have hq := HSZ.out
          rw [cntIl_append, cntIl_cons] at hq
          dsimp only at hq
          omega
        have HZL := Lib.hid hzl
        have HWX := Lib.hid (HWF.out ⟨z, a, c⟩ (by simp))
        have HK4 := Lib.hid hk4
        have hk40 : (kk : Int) ≤ 8388608 := by omega
        have hkn0 : (kn : Int) ≤ 8388608 := by have := HM2.out; omega
        clear hpo hd hnl hcm hkn hk4 hzl
        go_wp2_with fail
        refine (c_markIn a c B kk kn z _ HX.out HWX.out HKN.out HK4.out HZL.out).mono ?_
        rintro e w2 ⟨rfl, ho, hg⟩
        have G := Lib.hid (show GrownIn wr w2 (blk a).toList by rw [← inC_bl a c z]; exact hg)
        have OX := Lib.hid ho
        have RW2 := Lib.hid (ownsRow_in HRW.out G.out (fun q h1 h2 => HDD.out.1 q h2 h1))
        have PR2 := Lib.hid (OwnL.apart G.out _ HPR.out (by rw [bl_mkIl]; exact fun q h1 h2 => HDD.out.2.1 q h2 h1))
        have PO2 := Lib.hid (OwnL.apart G.out _ HPP.out (fun q h1 h2 => HDD.out.2.2 q h2 h1))
        clear ho hg hcell
        go_wp2_with fail
        go_roundw
        case rel =>
          refine ⟨pre ++ [⟨z, a, c⟩], post, by simp, by rw [List.length_append, HJ.out]; go_num, ?_, RW2.out, ?_, PO2.out, HG.out.trans (G.out.mono ?_)⟩
          · have := HKN.out; have := HKK.out
            rw [cntIl_append, cntIl_cons]
            simp only [cntIl, List.map_nil, List.sum_nil] at *
            congr 2
            omega
          · rw [mkIl_append, HKK.out, ilC_append, OwnL_append]
            refine ⟨PR2.out, ?_⟩
            simp only [mkIl, ilC_cons, OwnL, IlA.cl]
            exact ⟨OX.out.1, by simp [ilC, OwnL]⟩
          · intro q hq
            rw [ilC_append, blL_append, blL_il]
            simp only [List.mem_append]
            exact .inr (.inl hq)
        case measure => simp [intOf]; omega
    · have hz : post = [] := List.eq_nil_of_length_eq_zero (by omega)
      subst hz
      obtain rfl : j = n := by omega
      have hfin : (kk : Int) = (m : Int) := by
        have h1 := HKK.out; have h2 := HM.out
        rw [List.append_nil] at h2
        omega
      go_wp2_with fail
      go_ret
      refine ⟨ret_i hfin, ?_, HG.out.mono fun q hq => List.mem_append_right _ hq⟩
      simp only [OwnL, Cl.Own, and_true, List.append_nil, vs_ilC, mkIl_v]
      exact ⟨by simpa using HRW.out, HPR.out⟩
set_option maxRecDepth 20000 in
set_option maxHeartbeats 1000000 in
theorem c_heldIls (gs : Option Addr) (cap n k m : Nat) (ls : List IlA) (w : World) (hn : ls.length = n) (h : IlsAt w gs n cap (mkIl k ls)) (hm : k + cntIl ls = m) (hm2 : m ≤ 8388608) (hsz : cntIl ls ≤ 1048576) (hnm : n ≤ 1048576) :
    Calls Try.prog 17 #[.slice gs n cap, .int .i64 k] w fun e w' => e = .returned (.int .i64 (m : Int)) ∧ w = w' := by
  have H := Lib.hid h
  have HN := Lib.hid hn
  have HM := Lib.hid hm
  have HM2 := Lib.hid hm2
  have HSZ := Lib.hid hsz
  clear h hn hm hm2 hsz
  go_enter Try.func17, Try.ntmps17
  go_wp2
  go_loopw [1, 5] (fun kv iv wr => HeldIlRel n k ls w kv iv wr) (fun _ iv _ => n - (intOf iv).toNat)
  case atStart => exact ⟨0, Nat.zero_le _, rfl, by simp [cntIl], rfl⟩
  case round =>
    obtain ⟨j, hj, rfl, rfl, rfl⟩ := hrel
    obtain ⟨kk, hkk⟩ : ∃ kk, k + cntIl (ls.take j) = kk := ⟨_, rfl⟩
    have HKK := Lib.hid hkk
    rw [hkk]
    by_cases hlt : j < n
    · have hjl : j < ls.length := by rw [HN.out]; exact hlt
      obtain ⟨x, hx⟩ : ∃ x, ls[j]? = some x := ⟨_, List.getElem?_eq_getElem hjl⟩
      have hg := mkIl_get (k := k) hx
      rw [hkk] at hg
      obtain ⟨b, off, z, a, c, rfl, hbk, hx', q, f⟩ := H.out.one hlt
      rw [hg] at hx'
      obtain ⟨z', a', c'⟩ := x
      simp only [Option.some.injEq, IlA.mk.injEq] at hx'
      obtain ⟨rfl, rfl, rfl⟩ := hx'
      have hct := cntIl_take hx
      dsimp only at hct
      have hcl := cntIl_le ls (j + 1)
      rw [marksI_length] at f q
      obtain ⟨kn, hkn⟩ : ∃ kn, kk + z'.length = kn := ⟨_, rfl⟩
      have HKN := Lib.hid hkn
      have HCT := Lib.hid hct
      have HF := Lib.hid f
      have hk4 : kk ≤ 8388608 := by have := HM.out; have := HM2.out; omega
      have hzl : z'.length ≤ 1048576 := by have := HSZ.out; omega
      have HK4 := Lib.hid hk4
      have HZL := Lib.hid hzl
      have hk40 : (kk : Int) ≤ 8388608 := by omega
      have hkn0 : (0 : Int) ≤ (kn : Int) := by omega
      have hlt' : (j : Int) < (n : Int) := by omega
      clear f hx hg hct hcl hkn hk4 hzl hkk hjl
      go_wp2_with fail
      refine (c_heldInts' a' c' kk kn z'.length _ HF.out HKN.out HK4.out HZL.out).mono ?_
      rintro e w1 ⟨rfl, rfl⟩
      go_wp2_with fail
      go_roundw
      case rel => exact ⟨j + 1, by omega, by go_num, by have := HKN.out; have := HKK.out; have := HCT.out; congr 2; omega, rfl⟩
      case measure => simp [intOf]; omega
    · obtain rfl : j = n := by omega
      have hfin : (kk : Int) = (m : Int) := by
        have h1 := HKK.out; have h2 := HM.out
        rw [← HN.out, List.take_length] at h1
        omega
      go_wp2_with fail
      go_ret
      exact ⟨ret_i hfin, rfl⟩
/-! results: a list of lists and ok -/
theorem held_il {w : World} {B : Nat} {t : TypeId} {gs : Option Addr} {cap k n : Nat} {ys : List IlA} (hl : ys.length = n) (h : OwnL w B [.sl t 1 n gs cap (ilC (mkIl k ys))]) (hk : k + cntIl ys ≤ 8388608) (hs : cntIl ys ≤ 1048576) : IlsAt w gs n cap (mkIl k ys) := by
  refine ilsAt_own (by rw [mkIl_length, hl]) h ?_
  clear h hl
  induction ys generalizing k with
  | nil => intro x hx; cases hx
  | cons y ys ih =>
    rw [cntIl_cons] at hk hs
    intro x hx
    simp only [mkIl, List.mem_cons] at hx
    rcases hx with rfl | hx
    · exact marksI_wf _ _ (by omega) (by omega)
    · exact ih (by omega) (by omega) x hx
def cntZI (zs : List (List Int)) : Nat := (zs.map List.length).sum
theorem retIl_bound {ys : List IlA} {zs : List (List Int)} (hy : ys.map (fun x => x.z) = zs) (hz : zs.length + cntZI zs ≤ 1048576) : 1 + cntIl ys ≤ 8388608 ∧ cntIl ys ≤ 1048576 ∧ ys.length ≤ 1048576 := by
  have h1 : cntIl ys = cntZI zs := by rw [← hy]; simp [cntIl, cntZI, List.map_map, Function.comp_def]
  have h2 : ys.length = zs.length := by rw [← hy]; simp
  omega
theorem c_eqIls' (g g' : Option Addr) (cap cap' : Nat) (ls ls' : List IlA) (w : World) (h : IlsAt w g ls.length cap ls) (h' : IlsAt w g' ls'.length cap' ls') (hp : ls.map (fun x => x.z) = ls'.map (fun x => x.z)) :
    Calls Try.prog 14 #[.slice g ls.length cap, .slice g' ls'.length cap'] w fun e w' => e = .returned (.bool true) ∧ Below w.heap.size w w' := by
  have hl : ls'.length = ls.length := by simpa using (congrArg List.length hp).symm
  rw [hl] at h' ⊢
  exact c_eqIls g g' cap cap' ls.length ls ls' w h h' hp
/-- a list of lists and ok -/
def RetIl (b : Bool) (zs : List (List Int)) (w : World) (e : Ending) (w' : World) : Prop :=
  ∃ gs cap ys, e = .returned (.tuple #[.slice gs (List.length ys) cap, .bool b]) ∧ OwnL w' w.heap.size [.sl 35 1 ys.length gs cap (ilC ys)] ∧ (blL [.sl 35 1 ys.length gs cap (ilC ys)]).Nodup ∧ ys.map (fun x => x.z) = zs ∧ Below w.heap.size w w'
theorem retIl_no {w w' : World} (h : Below w.heap.size w w') : RetIl false [] w (.returned (.tuple #[.slice none 0 0, .bool false])) w' :=
  ⟨none, 0, [], rfl, by simp [OwnL, Cl.Own, ilC, vs, World.ownsRow_nil], by simp [blL, Cl.bl, ilC, blk], rfl, h⟩
end Go.Proofs.Ytdgoladbkaldkaa
