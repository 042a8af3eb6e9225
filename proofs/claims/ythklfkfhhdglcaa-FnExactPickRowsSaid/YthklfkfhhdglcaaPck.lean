/-
  Some rows of a tensor: the model and the program. Conditions: the tensor is valid and has the rows.
-/
import Derived.Test.YthklfkfhhdglcaaExa
import Derived.Test.YthklfkfhhdglcaaBat
import Derived.Test.YthklfkfhhdglcaaRow
import Derived.Deep.RegionLaw
import Derived.Deep.AppendLies
namespace Go.Proofs.Ythklfkfhhdglcaa
open Go.RowKit Go.Deep Go.WideShapes Go.ChangeShapes
set_option linter.unusedVariables false
attribute [local go_sem] World.drewN_zero

theorem pk_blk_far {w : World} {g g' i : Nat} {t : TypeId} {cs : Array Value} (h : Blk w g t cs) (hne : g ≠ g') (u : Value) : Blk (w.setCell ⟨g', i, none⟩ u) g t cs :=
  (Below.heap_setCell w ⟨g', i, none⟩ u g (fun e => hne (by simpa using e))).trans h
theorem pk_blk_set {w : World} {g i : Nat} {t : TypeId} {cs : Array Value} (h : Blk w g t cs) (u : Value) : Blk (w.setCell ⟨g, i, none⟩ u) g t (cs.setIfInBounds i u) := Joins.block_setCell h u
theorem pk_st_next {w wr w5 : World} {B : Nat} {b a' : Option Addr} {cp c' : Nat} {tl cl : List Nat} (ho : OwnF wr B b cp tl) (hc : ∀ y ∈ cl, y < 2 ^ 32)
    (hown : w5.ownsRow B 37 1 (.slice a' (tl.length + cl.length) c') (tl.length + cl.length) (tl.map (Value.float .f32) ++ cl.map (Value.float .f32))) (hgr : wr.grownBy w5 (Value.ownBlock (.slice b tl.length cp)))
    (hB : w.heap.size ≤ B) (hl : Below w.heap.size w wr) : OwnF w5 B a' c' (tl ++ cl) ∧ Below w.heap.size w w5 := by
  rw [ownBlock_slice] at hgr
  refine ⟨⟨by simpa using hown, fun y hy => ?_⟩, hl.grown hgr hl.size (fun g h => Nat.le_trans hB (ho.lt g h).1)⟩
  rcases List.mem_append.1 hy with h | h
  · exact ho.2 y h
  · exact hc y h
theorem pk_st_blk {wr w5 : World} {B ad : Nat} {t : TypeId} {cs : Array Value} {b : Option Addr} {cp : Nat} {tl : List Nat} (hk : Blk wr ad t cs) (ho : OwnF wr B b cp tl) (hgr : wr.grownBy w5 (Value.ownBlock (.slice b tl.length cp))) (hne : ad < B) : Blk w5 ad t cs := by
  rw [ownBlock_slice] at hgr
  refine (hgr.block ad hk.lt (fun e => ?_)).trans hk
  have := (ho.lt ad e.symm).1
  omega
theorem pk_st_blk' {wr w5 : World} {ad : Nat} {t : TypeId} {cs : Array Value} {b : Option Addr} {cp n : Nat} (hk : Blk wr ad t cs) (hgr : wr.grownBy w5 (Value.ownBlock (.slice b n cp))) (hne : ∀ g, blk b = some g → g ≠ ad) : Blk w5 ad t cs := by
  rw [ownBlock_slice] at hgr
  exact (hgr.block ad hk.lt (fun e => hne ad e.symm rfl)).trans hk
theorem pk_st_ne {w : World} {b a' : Option Addr} {n n' cp c' ad : Nat} (hat : Value.ownBlock (.slice a' n' c') = Value.ownBlock (.slice b n cp) ∨ Value.ownBlock (.slice a' n' c') = some w.heap.size) (hne : ∀ g, blk b = some g → g ≠ ad) (hlt : ad < w.heap.size) : ∀ g, blk a' = some g → g ≠ ad := by
  intro g hg
  rw [ownBlock_slice, ownBlock_slice] at hat
  rcases hat with h | h
  · exact hne g (h ▸ hg)
  · rw [h] at hg
    simp only [Option.some.injEq] at hg
    omega
theorem pk_st_far' {w : World} {B : Nat} {a : Option Addr} {cap : Nat} {ys : List Nat} (h : OwnF w B a cap ys) {g i : Nat} (hne : ∀ x, blk a = some x → x ≠ g) (u : Value) : OwnF (w.setCell ⟨g, i, none⟩ u) B a cap ys := by
  have hg : GrownIn w (w.setCell ⟨g, i, none⟩ u) [g] := (GrownIn.refl w [g]).setCell (p := ⟨g, i, none⟩) (by simp) u
  refine ⟨ownsRow_in h.1 hg (fun x hx hm => ?_), h.2⟩
  simp only [List.mem_singleton] at hm
  exact hne x (by simpa using hx) hm
set_option linter.unusedVariables false in
set_option maxHeartbeats 1000000 in
theorem c_l02Row3 (g : Nat) (R C A : Nat) (a : Option Addr) (n cap : Nat) (zs : List Nat) (w : World) (h : IsFloats .f32 w a n cap zs) (hR : R ≤ 16) (hC0 : 1 ≤ C) (hC : C ≤ 16) (hA : A < R) (hn : n = R * C) (zr : List Nat) (hr : (zs.drop (A * C)).take C = zr)
    (h0 : w.cell? ⟨g, 3, none⟩ = some (.int .i64 R)) (h1 : w.cell? ⟨g, 4, none⟩ = some (.int .i64 C)) (h2 : w.cell? ⟨g, 5, none⟩ = some (.slice a n cap)) :
    Calls Try.prog 134 #[.pointer (some ⟨g, 3, none⟩), .int .i64 A] w (RetRow zr w) := by
  have e1 : (A + 1) * C ≤ R * C := Nat.mul_le_mul_right C hA
  have e2 : (A + 1) * C = A * C + C := by rw [Nat.add_mul, Nat.one_mul]
  have e3 : R * C ≤ 16 * 16 := Nat.mul_le_mul hR hC
  obtain ⟨b, off, rfl⟩ : ∃ b off, a = some ⟨b, off, none⟩ := by
    rcases h.2.2.2.2 with h' | ⟨b, off, rfl, _⟩
    · omega
    · exact ⟨b, off, rfl⟩
  obtain ⟨P, hP⟩ : ∃ P, A * C = P := ⟨_, rfl⟩
  have i1 : (A : Int) * (C : Int) = (P : Int) := by rw [← hP]; exact (Int.natCast_mul A C).symm
  have i2 : ((A : Int) + 1) * (C : Int) = (P : Int) + (C : Int) := by rw [Int.add_mul, i1, Int.one_mul]
  have hcap := h.1
  have hcm : cap ≤ 9223372036854775807 := by have := h.2.1; unfold maxLen at this; omega
  have HP := Lib.hid hP
  have HN := Lib.hid hn
  have hn1 : P + C ≤ n := by omega
  have hn2 : n ≤ 256 := by omega
  have HL := Lib.hid (show zs.length = n from h.2.2.1)
  obtain ⟨Q, hQ⟩ : ∃ Q, P + C = Q := ⟨_, rfl⟩
  have HQ := Lib.hid hQ
  have hf0 := h.part P Q (by omega) (by omega) (cap - P) (by omega) (by have := h.2.1; omega)
  have hzr : (zs.drop P).take (Q - P) = zr := by rw [← hr, hP, show Q - P = C by omega]
  rw [hzr] at hf0
  have HF := Lib.hid hf0
  clear hf0 hzr hr
  have hq4 : P ≤ Q := by omega
  have HG := Lib.hid (cell_block h1)
  have hq1 : (P : Int) < (Q : Int) := by omega
  have hq2 : (Q : Int) ≤ (n : Int) := by omega
  have hq3 : (Q : Int) ≤ (cap : Int) := by omega
  have hq0 : (0 : Int) ≤ (P : Int) := by omega
  have hne : ¬ cap = P := by omega
  have k1 : IntKind.i64.wrap ((A : Int) * (C : Int)) = (P : Int) := by rw [i1]; exact IntWalk.i64_in _ (by omega)
  have k2 : IntKind.i64.wrap ((A : Int) + 1) = (A : Int) + 1 := IntWalk.i64_in _ (by omega)
  have k3 : IntKind.i64.wrap (((A : Int) + 1) * (C : Int)) = (Q : Int) := by rw [i2]; exact (IntWalk.i64_in _ (by omega)).trans (by omega)
  clear h e1 e2 e3 hP hn i1 i2 hQ
  go_enter Try.func134, Try.ntmps134
  go_wp2_with fail
  go_region_held3 (fun w' => w'.cell? ⟨g, 4, none⟩ = some (.int .i64 C) ∧ w'.cell? ⟨g, 5, none⟩ = some (.slice (some ⟨b, off, none⟩) n cap)) (go_keep)
    (first
      | (go_at_call 162
         refine (c_l02Own _ _ _ _ _ (by have := HF.out.kept ((Below.refl w.heap.size w).drew); simpa [add_plain] using this) (by omega)).mono ?_
         rintro e w1 ⟨b', c', rfl, hf, hb⟩
         have HW := Lib.hid hf
         have HB := Lib.hid (show Below w.heap.size w w1 from ((Below.refl _ _).drew).trans hb)
         have q1 := (HB.out.cell (p := ⟨g, 4, none⟩) HG.out).trans h1
         have q2 := (HB.out.cell (p := ⟨g, 5, none⟩) HG.out).trans h2
         clear hf hb))
  go_wp2
  go_ret
  exact ⟨b', c', rfl, HW.out, HB.out⟩

def rowsF (C : Nat) (zs : List Nat) (rows : List Int) : List Nat := rows.flatMap fun y => (zs.drop (y.toNat * C)).take C
theorem rowsF_nil (C : Nat) (zs : List Nat) : rowsF C zs [] = [] := rfl
theorem rowsF_snoc (C : Nat) (zs : List Nat) (rows : List Int) (y : Int) : rowsF C zs (rows ++ [y]) = rowsF C zs rows ++ (zs.drop (y.toNat * C)).take C := by simp [rowsF]
theorem rowsF_length {C : Nat} {zs : List Nat} {rows : List Int} : (rowsF C zs rows).length ≤ rows.length * C := by
  induction rows with
  | nil => simp [rowsF]
  | cons y t ih =>
    simp only [rowsF, List.flatMap_cons, List.length_append, List.length_take, List.length_cons] at ih ⊢
    rw [Nat.succ_mul]
    omega
theorem take_one' {Z : List Int} {i : Nat} (h : i < Z.length) : Z.take (i + 1) = Z.take i ++ [Z.getD i 0] := by
  rw [List.take_succ_eq_append_getElem h]
  simp [List.getD, h]
/-- n rows of C numbers -/
def RetRows (n C : Nat) (ys : List Nat) (w : World) (e : Ending) (w' : World) : Prop := ∃ b c, e = .returned (.agg #[.int .i64 n, .int .i64 C, .slice b ys.length c]) ∧ OwnF w' w.heap.size b c ys ∧ Below w.heap.size w w'
def PkRel (C : Nat) (zs : List Nat) (rows : List Int) (B : Nat) (K : World → Prop) (w : World) (iv : Value) (wr : World) : Prop :=
  ∃ (j : Nat) (b : Option Addr) (cp : Nat), j ≤ rows.length ∧ iv = .int .i64 j ∧ Blk wr (w.heap.size + 2) 49 #[.int .i64 rows.length, .int .i64 C, .slice b (rowsF C zs (rows.take j)).length cp] ∧
    K wr ∧ OwnF wr B b cp (rowsF C zs (rows.take j)) ∧ (∀ g, blk b = some g → g ≠ w.heap.size + 2) ∧ Below w.heap.size w wr
set_option maxRecDepth 20000 in
set_option maxHeartbeats 4000000 in
theorem c_sRows0 (g R C : Nat) (a : Option Addr) (n cap : Nat) (zs : List Nat) (rows : List Int) (ra : Option Addr) (rc : Nat) (w : World) (h : IsFloats .f32 w a n cap zs) (hR : R ≤ 16) (hC0 : 1 ≤ C) (hC : C ≤ 16) (hn : n = R * C)
    (hr : IsRow .i64 w ra rows.length rc rows) (hall : ∀ y ∈ rows, 0 ≤ y ∧ y < R) (h16 : rows.length ≤ 16) (hg : g < w.heap.size)
    (h0 : w.cell? ⟨g, 0, none⟩ = some (.int .i64 R)) (h1 : w.cell? ⟨g, 1, none⟩ = some (.int .i64 C)) (h2 : w.cell? ⟨g, 2, none⟩ = some (.slice a n cap)) :
    Calls Try.prog 85 #[.pointer (some ⟨g, 0, none⟩), .slice ra rows.length rc] w (RetRows rows.length C (rowsF C zs rows) w) := by
  obtain ⟨i0, hi, hz0, hz1, hz2⟩ := info_parts info_f32
  have HI := Lib.hid hi
  have HZ0 := Lib.hid hz0
  have HZ1 := Lib.hid hz1
  have HZ2 := Lib.hid hz2
  have HF := Lib.hid h
  have HRW := Lib.hid hr
  have HALL := Lib.hid hall
  have HG := Lib.hid hg
  have HNN := Lib.hid hn
  have H0 := Lib.hid h0
  have H1 := Lib.hid h1
  have H2 := Lib.hid h2
  have hm : rows.length ≤ 9223372036854775807 := by omega
  obtain ⟨L, hL⟩ : ∃ L, rows.length = L := ⟨_, rfl⟩
  have HL := Lib.hid hL
  have b0 := (((Below.refl w.heap.size w).alloc (Nat.le_refl _) (.cells #[.int .i64 0, .int .i64 0, .slice none 0 0] 49)).alloc (by simp) (.cells #[] 37)).alloc (by simp; omega) (.cells #[.int .i64 rows.length, .int .i64 C, .slice (some ⟨w.heap.size + 1, 0, none⟩) 0 0] 49)
  have k1 := Blk.new ((w.alloc (.cells #[.int .i64 0, .int .i64 0, .slice none 0 0] 49)).alloc (.cells #[] 37)) 49 #[.int .i64 rows.length, .int .i64 C, .slice (some ⟨w.heap.size + 1, 0, none⟩) 0 0]
  have k0 := ((Blk.new w 49 #[.int .i64 0, .int .i64 0, .slice none 0 0]).below ((Below.refl _ _).alloc (Nat.le_refl _) (.cells #[] 37))).below ((Below.refl _ _).alloc (Nat.le_refl _) (.cells #[.int .i64 rows.length, .int .i64 C, .slice (some ⟨w.heap.size + 1, 0, none⟩) 0 0] 49))
  have hr0 := (World.ownsRow_made (base := w.heap.size + 1) (e := 37) (size := 1) (w.alloc (.cells #[.int .i64 0, .int .i64 0, .slice none 0 0] 49)) #[] 0 (by simp) (by unfold maxLen; omega) rfl).alloc (.cells #[.int .i64 rows.length, .int .i64 C, .slice (some ⟨w.heap.size + 1, 0, none⟩) 0 0] 49)
  simp only [World.size_alloc] at k1 hr0
  have HST := Lib.hid (show PkRel C zs rows (w.heap.size + 1) (fun wr => Blk wr w.heap.size 49 #[.int .i64 0, .int .i64 0, .slice none 0 0]) w (.int .i64 0) (((w.alloc (.cells #[.int .i64 0, .int .i64 0, .slice none 0 0] 49)).alloc (.cells #[] 37)).alloc (.cells #[.int .i64 rows.length, .int .i64 C, .slice (some ⟨w.heap.size + 1, 0, none⟩) 0 0] 49)) from
    ⟨0, some ⟨w.heap.size + 1, 0, none⟩, 0, Nat.zero_le _, rfl, k1, k0, ⟨hr0, fun _ h => by cases h⟩, (by intro x hx; simp [blk] at hx; omega), b0⟩)
  clear b0 k1 k0 hr0 h hr hall h0 hi hz0 hz1 hz2 hn h2
  rw [hL] at HST HRW hm h16 ⊢
  clear hL
  go_enter Try.func85, Try.ntmps85
  have c1 : (w.alloc (.cells #[.int .i64 0, .int .i64 0, .slice none 0 0] 49)).cell? ⟨g, 1, none⟩ = some (.int .i64 C) := (((Below.refl w.heap.size w).alloc (Nat.le_refl _) _).cell (p := ⟨g, 1, none⟩) hg).trans h1
  go_wp2_with fail
  clear h1 c1 hg
  go_loopw [6] (fun iv wr => PkRel C zs rows (w.heap.size + 1) (fun wr => Blk wr w.heap.size 49 #[.int .i64 0, .int .i64 0, .slice none 0 0]) w iv wr) (fun iv _ => L - (intOf iv).toNat)
  case atStart => exact HST.out
  case round =>
    obtain ⟨j, rb, cp, hj, rfl, hk1, hk0, ho, hne, hb⟩ := hrel
    have K1 := Lib.hid hk1
    have K0 := Lib.hid hk0
    have HO := Lib.hid ho
    have HNE := Lib.hid hne
    have HB := Lib.hid hb
    have hbd : (rowsF C zs (rows.take j)).length ≤ 256 := Nat.le_trans rowsF_length (Nat.le_trans (Nat.mul_le_mul (show (rows.take j).length ≤ 16 by rw [List.length_take, HL.out]; omega) hC) (by decide))
    obtain ⟨DJ, hDJ⟩ : ∃ D, rowsF C zs (rows.take j) = D := ⟨_, rfl⟩
    have HDJ := Lib.hid hDJ
    rw [HL.out] at hj K1
    rw [hDJ] at K1 HO hbd
    have hj0 : (0 : Int) ≤ (j : Int) := by omega
    clear HST hk1 hk0 ho hne hb hDJ
    by_cases hlt : j < L
    · have hlt' : (j : Int) < (L : Int) := by omega
      rcases HRW.out.2.2.2.2 with h' | ⟨rb0, ro, rfl, hrb, hrc⟩
      · omega
      have cr := (HB.out.cell (p := ⟨rb0, ro + j, none⟩) hrb).trans (hrc j hlt)
      have hy := HALL.out (rows.getD j 0) (by simp [List.getD, show j < rows.length by rw [HL.out]; exact hlt])
      have HTK := Lib.hid (take_one' (show j < rows.length by rw [HL.out]; exact hlt))
      obtain ⟨y, hyy⟩ : ∃ y, rows.getD j 0 = y := ⟨_, rfl⟩
      rw [hyy] at cr hy HTK
      obtain ⟨A, rfl⟩ := Int.eq_ofNat_of_zero_le hy.1
      have hA : A < R := by omega
      have HRS := Lib.hid (rowsF_snoc C zs (rows.take j) (A : Int))
      rw [← HTK.out, HDJ.out, Int.toNat_natCast] at HRS
      obtain ⟨zr, hzr⟩ : ∃ zr, (zs.drop (A * C)).take C = zr := ⟨_, rfl⟩
      rw [hzr] at HRS
      have HZR := Lib.hid hzr
      have hzl : zr.length ≤ 16 := by rw [← hzr, List.length_take]; omega
      have A1 := Lib.hid (show DJ.length + zr.length ≤ 512 by omega)
      have bd : Below wr.heap.size wr wr.drew := (Below.refl _ _).drew
      have K1' := Lib.hid (K1.out.below bd)
      have K0' := Lib.hid (K0.out.below bd)
      have HO2 := Lib.hid (HO.out.kept bd)
      have HB2 := Lib.hid (HB.out.trans (bd.mono HB.out.size))
      obtain ⟨s0, s1, s2, sl⟩ := tb K1.out
      obtain ⟨e0, e1, e2⟩ := tbf K1.out
      clear hyy hy hzr hrc bd hzl
      go_wp2_with fail
      go_region_law (first
        | (refine step_append_any _ rfl (.tmp 22) (.tmp 28) 32 rfl (w.heap.size + 1) 37 i0 (.float .f32 0) 1 4 Try.underlying32 HI.out HZ0.out HZ1.out HZ2.out rfl Nat.one_pos (.slice rb DJ.length cp) DJ.length (DJ.map (Value.float .f32)) rfl HO3.out.1 _ zb zr.length zc _ rfl HZF.out.reads (ones_f32 _) A2.out A3.out HSZ.out ?_
           intro v' w5 hown hgr hat
           obtain ⟨a', c', rfl⟩ := ownsRow_slice hown
           have HNX := Lib.hid (pk_st_next HO3.out HZF.out.2.2.2.1 hown hgr (by omega) HB3.out)
           have K15 := Lib.hid (pk_st_blk' K13.out hgr HNE.out)
           have K05 := Lib.hid (pk_st_blk K03.out HO3.out hgr (by omega))
           have HNE5 := Lib.hid (pk_st_ne hat HNE.out K13.out.lt)
           clear hown hgr hat
           obtain ⟨s0, s1, s2, sl⟩ := tb K15.out
           obtain ⟨e0, e1, e2⟩ := tbf K15.out)
        | (go_simp
           go_at_call 134
           refine (c_l02Row g R C A a n cap zs _ (HF.out.kept HB2.out) hR hC0 hC hA HNN.out zr HZR.out ((HB2.out.cell (p := ⟨g, 0, none⟩) HG.out).trans H0.out) ((HB2.out.cell (p := ⟨g, 1, none⟩) HG.out).trans H1.out) ((HB2.out.cell (p := ⟨g, 2, none⟩) HG.out).trans H2.out)).mono ?_
           rintro e w3 ⟨zb, zc, rfl, hf, hb⟩
           have K13 := Lib.hid (K1'.out.below hb)
           have K03 := Lib.hid (K0'.out.below hb)
           have HO3 := Lib.hid (HO2.out.kept hb)
           have HB3 := Lib.hid (Below.next HB2.out hb)
           have HZF := Lib.hid hf.isFloats
           have HSZ := Lib.hid (show w.heap.size + 1 ≤ w3.heap.size from Nat.le_of_lt (Nat.lt_of_succ_lt (K1'.out.below hb).lt))
           have A2 := Lib.hid (show DJ.length + zr.length ≤ maxLen by have := A1.out; unfold maxLen; omega)
           have A3 := Lib.hid (show (DJ.length + zr.length) * 4 ≤ 140737488355328 by have := A1.out; omega)
           obtain ⟨s0, s1, s2, sl⟩ := tb K13.out
           obtain ⟨e0, e1, e2⟩ := tbf K13.out
           clear hf hb))
      all_goals
        go_wp2_with fail
        clear s0 s1 s2 sl e0 e1 e2
        go_roundw
        case rel =>
          have hk := pk_blk_set (i := 2) K15.out (.slice a' (DJ.length + zr.length) c')
          simp only [List.setIfInBounds_toArray, List.set_cons_zero, List.set_cons_succ] at hk
          refine ⟨j + 1, a', c', by rw [HL.out]; omega, by go_num, ?_, pk_blk_far (i := 2) K05.out (by omega) _, ?_, HNE5.out, HNX.out.2.setCell (p := ⟨w.heap.size + 1 + 1, 2, none⟩) (by simp; omega) _⟩
          · rw [HRS.out, List.length_append, HL.out]; exact hk
          · rw [HRS.out]; exact pk_st_far' (i := 2) HNX.out.1 HNE5.out _
        case measure => simp [intOf]; omega
    · obtain rfl : j = L := by omega
      have HDD := Lib.hid (show rowsF C zs rows = DJ by rw [← HDJ.out, List.take_of_length_le (by rw [HL.out]; exact Nat.le_refl _)])
      obtain ⟨s0, s1, s2, sl⟩ := tb K1.out
      obtain ⟨r0, r1, r2, rl⟩ := tb K0.out
      obtain ⟨e0, e1, e2⟩ := tbf K0.out
      obtain ⟨hk, hgw⟩ := store3 K0.out (x' := .int .i64 j) (y' := .int .i64 C) (z' := .slice rb DJ.length cp)
      obtain ⟨m0, m1, m2, ml⟩ := tb hk
      have HE1 := Lib.hid (HO.out.apart (b := some ⟨w.heap.size, 0, none⟩) hgw (fun x h1 h2 => by have := (HO.out.lt x h1).1; simp [blk] at h2; omega))
      have HE2 := Lib.hid (Below.at_ HB.out hgw (Nat.le_refl _))
      clear hk hgw
      go_wp2_with fail
      refine bodyPost_ret (v := .agg #[.int .i64 j, .int .i64 C, .slice rb DJ.length cp]) (by simp [results, Try.results85, go_sem, m0, m1, m2]) rfl ?_
      rw [HDD.out]
      exact ⟨rb, cp, rfl, HE1.out.base (by omega), HE2.out⟩
set_option maxRecDepth 20000 in
set_option maxHeartbeats 4000000 in
theorem c_sRows3 (g R C : Nat) (a : Option Addr) (n cap : Nat) (zs : List Nat) (rows : List Int) (ra : Option Addr) (rc : Nat) (w : World) (h : IsFloats .f32 w a n cap zs) (hR : R ≤ 16) (hC0 : 1 ≤ C) (hC : C ≤ 16) (hn : n = R * C)
    (hr : IsRow .i64 w ra rows.length rc rows) (hall : ∀ y ∈ rows, 0 ≤ y ∧ y < R) (h16 : rows.length ≤ 16) (hg : g < w.heap.size)
    (h0 : w.cell? ⟨g, 3, none⟩ = some (.int .i64 R)) (h1 : w.cell? ⟨g, 4, none⟩ = some (.int .i64 C)) (h2 : w.cell? ⟨g, 5, none⟩ = some (.slice a n cap)) :
    Calls Try.prog 85 #[.pointer (some ⟨g, 3, none⟩), .slice ra rows.length rc] w (RetRows rows.length C (rowsF C zs rows) w) := by
  obtain ⟨i0, hi, hz0, hz1, hz2⟩ := info_parts info_f32
  have HI := Lib.hid hi
  have HZ0 := Lib.hid hz0
  have HZ1 := Lib.hid hz1
  have HZ2 := Lib.hid hz2
  have HF := Lib.hid h
  have HRW := Lib.hid hr
  have HALL := Lib.hid hall
  have HG := Lib.hid hg
  have HNN := Lib.hid hn
  have H0 := Lib.hid h0
  have H1 := Lib.hid h1
  have H2 := Lib.hid h2
  have hm : rows.length ≤ 9223372036854775807 := by omega
  obtain ⟨L, hL⟩ : ∃ L, rows.length = L := ⟨_, rfl⟩
  have HL := Lib.hid hL
  have b0 := (((Below.refl w.heap.size w).alloc (Nat.le_refl _) (.cells #[.int .i64 0, .int .i64 0, .slice none 0 0] 49)).alloc (by simp) (.cells #[] 37)).alloc (by simp; omega) (.cells #[.int .i64 rows.length, .int .i64 C, .slice (some ⟨w.heap.size + 1, 0, none⟩) 0 0] 49)
  have k1 := Blk.new ((w.alloc (.cells #[.int .i64 0, .int .i64 0, .slice none 0 0] 49)).alloc (.cells #[] 37)) 49 #[.int .i64 rows.length, .int .i64 C, .slice (some ⟨w.heap.size + 1, 0, none⟩) 0 0]
  have k0 := ((Blk.new w 49 #[.int .i64 0, .int .i64 0, .slice none 0 0]).below ((Below.refl _ _).alloc (Nat.le_refl _) (.cells #[] 37))).below ((Below.refl _ _).alloc (Nat.le_refl _) (.cells #[.int .i64 rows.length, .int .i64 C, .slice (some ⟨w.heap.size + 1, 0, none⟩) 0 0] 49))
  have hr0 := (World.ownsRow_made (base := w.heap.size + 1) (e := 37) (size := 1) (w.alloc (.cells #[.int .i64 0, .int .i64 0, .slice none 0 0] 49)) #[] 0 (by simp) (by unfold maxLen; omega) rfl).alloc (.cells #[.int .i64 rows.length, .int .i64 C, .slice (some ⟨w.heap.size + 1, 0, none⟩) 0 0] 49)
  simp only [World.size_alloc] at k1 hr0
  have HST := Lib.hid (show PkRel C zs rows (w.heap.size + 1) (fun wr => Blk wr w.heap.size 49 #[.int .i64 0, .int .i64 0, .slice none 0 0]) w (.int .i64 0) (((w.alloc (.cells #[.int .i64 0, .int .i64 0, .slice none 0 0] 49)).alloc (.cells #[] 37)).alloc (.cells #[.int .i64 rows.length, .int .i64 C, .slice (some ⟨w.heap.size + 1, 0, none⟩) 0 0] 49)) from
    ⟨0, some ⟨w.heap.size + 1, 0, none⟩, 0, Nat.zero_le _, rfl, k1, k0, ⟨hr0, fun _ h => by cases h⟩, (by intro x hx; simp [blk] at hx; omega), b0⟩)
  clear b0 k1 k0 hr0 h hr hall h0 hi hz0 hz1 hz2 hn h2
  rw [hL] at HST HRW hm h16 ⊢
  clear hL
  go_enter Try.func85, Try.ntmps85
  have c1 : (w.alloc (.cells #[.int .i64 0, .int .i64 0, .slice none 0 0] 49)).cell? ⟨g, 4, none⟩ = some (.int .i64 C) := (((Below.refl w.heap.size w).alloc (Nat.le_refl _) _).cell (p := ⟨g, 4, none⟩) hg).trans h1
  go_wp2_with fail
  clear h1 c1 hg
  go_loopw [6] (fun iv wr => PkRel C zs rows (w.heap.size + 1) (fun wr => Blk wr w.heap.size 49 #[.int .i64 0, .int .i64 0, .slice none 0 0]) w iv wr) (fun iv _ => L - (intOf iv).toNat)
  case atStart => exact HST.out
  case round =>
    obtain ⟨j, rb, cp, hj, rfl, hk1, hk0, ho, hne, hb⟩ := hrel
    have K1 := Lib.hid hk1
    have K0 := Lib.hid hk0
    have HO := Lib.hid ho
    have HNE := Lib.hid hne
    have HB := Lib.hid hb
    have hbd : (rowsF C zs (rows.take j)).length ≤ 256 := Nat.le_trans rowsF_length (Nat.le_trans (Nat.mul_le_mul (show (rows.take j).length ≤ 16 by rw [List.length_take, HL.out]; omega) hC) (by decide))
    obtain ⟨DJ, hDJ⟩ : ∃ D, rowsF C zs (rows.take j) = D := ⟨_, rfl⟩
    have HDJ := Lib.hid hDJ
    rw [HL.out] at hj K1
    rw [hDJ] at K1 HO hbd
    have hj0 : (0 : Int) ≤ (j : Int) := by omega
    clear HST hk1 hk0 ho hne hb hDJ
    by_cases hlt : j < L
    · have hlt' : (j : Int) < (L : Int) := by omega
      rcases HRW.out.2.2.2.2 with h' | ⟨rb0, ro, rfl, hrb, hrc⟩
      · omega
      have cr := (HB.out.cell (p := ⟨rb0, ro + j, none⟩) hrb).trans (hrc j hlt)
      have hy := HALL.out (rows.getD j 0) (by simp [List.getD, show j < rows.length by rw [HL.out]; exact hlt])
      have HTK := Lib.hid (take_one' (show j < rows.length by rw [HL.out]; exact hlt))
      obtain ⟨y, hyy⟩ : ∃ y, rows.getD j 0 = y := ⟨_, rfl⟩
      rw [hyy] at cr hy HTK
      obtain ⟨A, rfl⟩ := Int.eq_ofNat_of_zero_le hy.1
      have hA : A < R := by omega
      have HRS := Lib.hid (rowsF_snoc C zs (rows.take j) (A : Int))
      rw [← HTK.out, HDJ.out, Int.toNat_natCast] at HRS
      obtain ⟨zr, hzr⟩ : ∃ zr, (zs.drop (A * C)).take C = zr := ⟨_, rfl⟩
      rw [hzr] at HRS
      have HZR := Lib.hid hzr
      have hzl : zr.length ≤ 16 := by rw [← hzr, List.length_take]; omega
      have A1 := Lib.hid (show DJ.length + zr.length ≤ 512 by omega)
      have bd : Below wr.heap.size wr wr.drew := (Below.refl _ _).drew
      have K1' := Lib.hid (K1.out.below bd)
      have K0' := Lib.hid (K0.out.below bd)
      have HO2 := Lib.hid (HO.out.kept bd)
      have HB2 := Lib.hid (HB.out.trans (bd.mono HB.out.size))
      obtain ⟨s0, s1, s2, sl⟩ := tb K1.out
      obtain ⟨e0, e1, e2⟩ := tbf K1.out
      clear hyy hy hzr hrc bd hzl
      go_wp2_with fail
      go_region_law (first
        | (refine step_append_any _ rfl (.tmp 22) (.tmp 28) 32 rfl (w.heap.size + 1) 37 i0 (.float .f32 0) 1 4 Try.underlying32 HI.out HZ0.out HZ1.out HZ2.out rfl Nat.one_pos (.slice rb DJ.length cp) DJ.length (DJ.map (Value.float .f32)) rfl HO3.out.1 _ zb zr.length zc _ rfl HZF.out.reads (ones_f32 _) A2.out A3.out HSZ.out ?_
           intro v' w5 hown hgr hat
           obtain ⟨a', c', rfl⟩ := ownsRow_slice hown
           have HNX := Lib.hid (pk_st_next HO3.out HZF.out.2.2.2.1 hown hgr (by omega) HB3.out)
           have K15 := Lib.hid (pk_st_blk' K13.out hgr HNE.out)
           have K05 := Lib.hid (pk_st_blk K03.out HO3.out hgr (by omega))
           have HNE5 := Lib.hid (pk_st_ne hat HNE.out K13.out.lt)
           clear hown hgr hat
           obtain ⟨s0, s1, s2, sl⟩ := tb K15.out
           obtain ⟨e0, e1, e2⟩ := tbf K15.out)
        | (go_simp
           go_at_call 134
           refine (c_l02Row3 g R C A a n cap zs _ (HF.out.kept HB2.out) hR hC0 hC hA HNN.out zr HZR.out ((HB2.out.cell (p := ⟨g, 3, none⟩) HG.out).trans H0.out) ((HB2.out.cell (p := ⟨g, 4, none⟩) HG.out).trans H1.out) ((HB2.out.cell (p := ⟨g, 5, none⟩) HG.out).trans H2.out)).mono ?_
           rintro e w3 ⟨zb, zc, rfl, hf, hb⟩
           have K13 := Lib.hid (K1'.out.below hb)
           have K03 := Lib.hid (K0'.out.below hb)
           have HO3 := Lib.hid (HO2.out.kept hb)
           have HB3 := Lib.hid (Below.next HB2.out hb)
           have HZF := Lib.hid hf.isFloats
           have HSZ := Lib.hid (show w.heap.size + 1 ≤ w3.heap.size from Nat.le_of_lt (Nat.lt_of_succ_lt (K1'.out.below hb).lt))
           have A2 := Lib.hid (show DJ.length + zr.length ≤ maxLen by have := A1.out; unfold maxLen; omega)
           have A3 := Lib.hid (show (DJ.length + zr.length) * 4 ≤ 140737488355328 by have := A1.out; omega)
           obtain ⟨s0, s1, s2, sl⟩ := tb K13.out
           obtain ⟨e0, e1, e2⟩ := tbf K13.out
           clear hf hb))
      all_goals
        go_wp2_with fail
        clear s0 s1 s2 sl e0 e1 e2
        go_roundw
        case rel =>
          have hk := pk_blk_set (i := 2) K15.out (.slice a' (DJ.length + zr.length) c')
          simp only [List.setIfInBounds_toArray, List.set_cons_zero, List.set_cons_succ] at hk
          refine ⟨j + 1, a', c', by rw [HL.out]; omega, by go_num, ?_, pk_blk_far (i := 2) K05.out (by omega) _, ?_, HNE5.out, HNX.out.2.setCell (p := ⟨w.heap.size + 1 + 1, 2, none⟩) (by simp; omega) _⟩
          · rw [HRS.out, List.length_append, HL.out]; exact hk
          · rw [HRS.out]; exact pk_st_far' (i := 2) HNX.out.1 HNE5.out _
        case measure => simp [intOf]; omega
    · obtain rfl : j = L := by omega
      have HDD := Lib.hid (show rowsF C zs rows = DJ by rw [← HDJ.out, List.take_of_length_le (by rw [HL.out]; exact Nat.le_refl _)])
      obtain ⟨s0, s1, s2, sl⟩ := tb K1.out
      obtain ⟨r0, r1, r2, rl⟩ := tb K0.out
      obtain ⟨e0, e1, e2⟩ := tbf K0.out
      obtain ⟨hk, hgw⟩ := store3 K0.out (x' := .int .i64 j) (y' := .int .i64 C) (z' := .slice rb DJ.length cp)
      obtain ⟨m0, m1, m2, ml⟩ := tb hk
      have HE1 := Lib.hid (HO.out.apart (b := some ⟨w.heap.size, 0, none⟩) hgw (fun x h1 h2 => by have := (HO.out.lt x h1).1; simp [blk] at h2; omega))
      have HE2 := Lib.hid (Below.at_ HB.out hgw (Nat.le_refl _))
      clear hk hgw
      go_wp2_with fail
      refine bodyPost_ret (v := .agg #[.int .i64 j, .int .i64 C, .slice rb DJ.length cp]) (by simp [results, Try.results85, go_sem, m0, m1, m2]) rfl ?_
      rw [HDD.out]
      exact ⟨rb, cp, rfl, HE1.out.base (by omega), HE2.out⟩
end Go.Proofs.Ythklfkfhhdglcaa
