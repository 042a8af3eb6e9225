/-
  TransposeTensor, as the model and the program make it. Conditions: the numbers can be read.
-/
import Derived.Test.YtkfpaehalfjhhaaTakeCol
import Derived.Test.YtkfpaehalfjhhaaEach
import Derived.RegionTactic
import Derived.OwnWalk
namespace Go.Proofs.Ytkfpaehalfjhhaa
open Go.RowKit Go.Deep Go.WideShapes Go.ChangeShapes

/-- number p of the transposed tensor -/
def turnF (z : List Nat) (R C p : Nat) : Nat := canon .f32 (z.getD ((p % R) * C + p / R) 0)
/-- the first k columns, one behind the other -/
def turnL (z : List Nat) (R C k : Nat) : List Nat := (List.range k).flatMap fun i => colL z R C i
theorem turnL_succ (z : List Nat) (R C k : Nat) : turnL z R C (k + 1) = turnL z R C k ++ colL z R C k := by
  unfold turnL; rw [List.range_succ, List.flatMap_append]; simp
theorem turnL_length (z : List Nat) (R C k : Nat) : (turnL z R C k).length = k * R := by
  induction k with
  | zero => simp [turnL]
  | succ k ih => rw [turnL_succ, List.length_append, ih, colL_length, Nat.add_mul, Nat.one_mul]
theorem turnF_at {z : List Nat} {R C i k : Nat} (hk : k < R) : turnF z R C (i * R + k) = canon .f32 (z.getD (k * C + i) 0) := by
  unfold turnF
  have h1 : (i * R + k) % R = k := by rw [Nat.mul_comm, Nat.mul_add_mod, Nat.mod_eq_of_lt hk]
  have h2 : (i * R + k) / R = i := by rw [Nat.mul_comm, Nat.mul_add_div (by omega), Nat.div_eq_of_lt hk, Nat.add_zero]
  rw [h1, h2]
theorem turn_map (z : List Nat) (R C k : Nat) : (turnL z R C k).map (canon .f32) = (List.range (k * R)).map (turnF z R C) := by
  induction k with
  | zero => simp [turnL]
  | succ k ih =>
    rw [turnL_succ, List.map_append, ih, Nat.add_mul, Nat.one_mul, List.range_add, List.map_append]
    congr 1
    rw [List.map_map]
    unfold colL
    rw [List.map_map]
    refine List.map_congr_left fun i hi => ?_
    exact (turnF_at (List.mem_range.1 hi)).symm
theorem turn_small {R C i k : Nat} (hR : R ≤ 16) (hC : C ≤ 16) (hi : i < C) (hk : k < R) : i * R + k < 256 := by
  have e1 : (i + 1) * R ≤ C * R := Nat.mul_le_mul_right R hi
  have e2 : (i + 1) * R = i * R + R := by rw [Nat.add_mul, Nat.one_mul]
  have e3 : C * R ≤ 16 * 16 := Nat.mul_le_mul hC hR
  omega

def vTransposeTensor (r c : Int) (z : List Nat) : Int × Int × Bool × List Nat := if vokB r c z.length = true then (c, r, true, (List.range (c.toNat * r.toNat)).map (turnF z r.toNat c.toNat)) else (0, 0, false, [])
theorem vTransposeTensor_len (r c : Int) (z : List Nat) : (vTransposeTensor r c z).2.2.2.length ≤ 1048576 := by
  unfold vTransposeTensor
  split
  · rename_i h
    obtain ⟨R, C, rfl, rfl, h1, h2, h3, h4, h5⟩ := vok_nat h
    have := Nat.mul_le_mul h4 h2
    simp; omega
  · simp
theorem vTransposeTensor_yes {R C : Nat} {z : List Nat} (h : vokB R C z.length = true) : vTransposeTensor R C z = ((C : Int), (R : Int), true, (List.range (C * R)).map (turnF z R C)) := by unfold vTransposeTensor; rw [if_pos h]; simp

def TurnRel (z : List Nat) (R C : Nat) (a0 : Option Addr) (w : World) (s i : Value) (wr : World) : Prop :=
  ∃ (k : Nat) (b : Option Addr) (cp : Nat), k ≤ C ∧ i = .int .i64 k ∧ s = .slice b (turnL z R C k).length cp ∧ OwnF wr w.heap.size b cp (turnL z R C k) ∧ Below w.heap.size w wr ∧
    Blk wr w.heap.size 26 #[.int .i64 R, .int .i64 C, .slice a0 z.length z.length] ∧ Blk wr (w.heap.size + 1) 26 #[.int .i64 0, .int .i64 0, .slice none 0 0]
theorem turn_next {w wr w5 : World} {b a' b2 : Option Addr} {cp c' c2 B2 g1 g2 : Nat} {cs1 cs2 : Array Value} {tl cl : List Nat} (ho : OwnF wr w.heap.size b cp tl) (hc : OwnF wr B2 b2 c2 cl)
    (hown : w5.ownsRow w.heap.size 46 1 (.slice a' (tl.length + cl.length) c') (tl.length + cl.length) (tl.map (Value.float .f32) ++ cl.map (Value.float .f32))) (hgr : wr.grownBy w5 (Value.ownBlock (.slice b tl.length cp)))
    (hl : Below w.heap.size w wr) (k1 : Blk wr g1 26 cs1) (k2 : Blk wr g2 26 cs2) :
    OwnF w5 w.heap.size a' c' (tl ++ cl) ∧ Below w.heap.size w w5 ∧ Blk w5 g1 26 cs1 ∧ Blk w5 g2 26 cs2 := by
  rw [ownBlock_slice] at hgr
  refine ⟨⟨by simpa using hown, fun y hy => ?_⟩, hl.grown hgr hl.size (fun g h => (ho.lt g h).1), k1.apart hgr ho (by decide), k2.apart hgr ho (by decide)⟩
  rcases List.mem_append.1 hy with h | h
  · exact ho.2 y h
  · exact hc.2 y h
theorem trl_own {B : Nat} {wr : World} {b : Option Addr} {cp v : Nat} {ys : List Nat} (ho : OwnF wr B b cp ys) : (wr.alloc (.cells #[.float .f32 v] 46)).ownsRow B 46 1 (.slice b ys.length cp) ys.length (ys.map (Value.float .f32)) := (ho.kept ((Below.refl _ _).alloc (Nat.le_refl _) _)).1
theorem trl_reads {wr : World} {v : Nat} : Reads (wr.alloc (.cells #[.float .f32 v] 46)) (wr.heap.size + 1) 1 (some ⟨wr.heap.size, 0, none⟩) 1 [.float .f32 v] := by
  refine ⟨rfl, fun _ => ⟨_, rfl, by simp, fun j u hu => ?_⟩⟩
  rw [add_plain]
  have := (Blk.new wr 46 #[.float .f32 v]).cell (0 + j)
  rw [this, Nat.zero_add]
  simpa using hu
theorem trl_one (v : Nat) : ∀ u ∈ [Value.float .f32 v], u.oneCell' = true := by intro u hu; simp at hu; subst hu; rfl
theorem trl_next {w wr w' : World} {b a' : Option Addr} {cp c' y : Nat} {xl : List Nat} (ho : OwnF wr w.heap.size b cp xl) (hb : Below w.heap.size w wr) (hy : y < 2 ^ 32)
    (hown : w'.ownsRow w.heap.size 46 1 (.slice a' (xl.length + 1) c') (xl.length + 1) (xl.map (Value.float .f32) ++ [.float .f32 y])) (hg : (wr.alloc (.cells #[.float .f32 y] 46)).grownBy w' (Value.ownBlock (.slice b xl.length cp))) :
    OwnF w' w.heap.size a' c' (xl ++ [y]) ∧ Below w.heap.size w w' := by
  refine ⟨⟨by simpa using hown, fun x hx => ?_⟩, ?_⟩
  · rcases List.mem_append.1 hx with h | h
    · exact ho.2 x h
    · rw [List.mem_singleton.1 h]; exact hy
  · have ba : Below wr.heap.size wr (wr.alloc (.cells #[.float .f32 y] 46)) := (Below.refl _ _).alloc (Nat.le_refl _) _
    have b2 := Below.next hb ba
    exact b2.grown hg b2.size (fun k hk => (ho.1.lt k hk).1)
def TrlRel (z : List Nat) (R C : Nat) (w : World) (s i : Value) (wr : World) : Prop :=
  ∃ (k : Nat) (b : Option Addr) (cp : Nat), k ≤ C ∧ i = .int .i64 k ∧ s = .slice b (turnL z R C k).length cp ∧ OwnF wr w.heap.size b cp (turnL z R C k) ∧ Below w.heap.size w wr
def TriRel (z : List Nat) (R C k : Nat) (w : World) (s j : Value) (wr : World) : Prop :=
  ∃ (r J : Nat) (xl : List Nat) (b : Option Addr) (cp : Nat), r ≤ R ∧ r * C + k = J ∧ xl = turnL z R C k ++ colL z r C k ∧ j = .int .i64 J ∧ s = .slice b xl.length cp ∧ OwnF wr w.heap.size b cp xl ∧ Below w.heap.size w wr
theorem tri_lt {R C r k J n : Nat} (hJ : r * C + k = J) (hk : k < C) (hn : n = R * C) (hr : r ≤ R) : (J < n ↔ r < R) ∧ (r + 1) * C + k = J + C ∧ (r = R → n ≤ J) := by
  subst hJ hn
  refine ⟨⟨fun h => ?_, fun h => ?_⟩, by rw [Nat.succ_mul]; omega, fun e => by subst e; omega⟩
  · rcases Nat.lt_or_ge r R with h1 | h1
    · exact h1
    · obtain rfl : r = R := by omega
      omega
  · have := Nat.mul_le_mul_right C (show r + 1 ≤ R by omega)
    rw [Nat.succ_mul] at this
    omega
set_option maxRecDepth 20000 in
set_option maxHeartbeats 4000000 in
theorem c_transposeList (R C : Nat) (a : Option Addr) (n cap : Nat) (z : List Nat) (w : World) (h : IsFloats .f32 w a n cap z) (hR : R ≤ 16) (h1 : 1 ≤ C) (hC : C ≤ 16) (hn : n = R * C) :
    Calls Try.prog 83 #[.slice a n cap, .int .i64 C] w fun e w' => ∃ b c, e = .returned (.slice b (turnL z R C C).length c) ∧ OwnF w' w.heap.size b c (turnL z R C C) ∧ Below w.heap.size w w' := by
  have hn8 : n ≤ 256 := by rw [hn]; exact Nat.mul_le_mul hR hC
  have H := Lib.hid h
  have HN := Lib.hid hn
  have HR := Lib.hid hR
  obtain ⟨i0, hi, hz0, hz1, hz2⟩ := info_parts info_f32
  have JI := Lib.hid hi
  have HZ0 := Lib.hid hz0
  have HZ1 := Lib.hid hz1
  have HZ2 := Lib.hid hz2
  clear h hn hR hi hz0 hz1 hz2
  go_enter Try.func83, Try.ntmps83
  go_wp2_with (at_make; refine wpList_make_own _ rfl _ _ 22 rfl w.heap.size 46 i0 (.float .f32 0) 1 Try.underlying22 JI.out HZ0.out HZ1.out _ _ _ n rfl rfl rfl ?c1 ?c2 ?c3 ?_)
  case c1 => rw [HZ2.out]; omega
  case c2 => unfold maxLen; omega
  case c3 => exact Nat.le_refl _
  intro w1 hown hgrow
  have hb1 : Below w.heap.size w w1 := (Below.refl _ _).grown hgrow (Nat.le_refl _) (fun k h => by cases h)
  have HO := Lib.hid (show OwnF w1 w.heap.size (some ⟨w.heap.size, 0, none⟩) n [] from ⟨hown, fun y hy => by cases hy⟩)
  have HB := Lib.hid hb1
  clear hown hb1 hgrow
  go_wp2_with fail
  go_loopw [5, 12] (fun s i wr => TrlRel z R C w s i wr) (fun _ i _ => C - (intOf i).toNat)
  case atStart => exact ⟨0, _, _, Nat.zero_le _, rfl, rfl, HO.out, HB.out⟩
  case round =>
    obtain ⟨k, b, cp, hk, rfl, rfl, ho, hb⟩ := hrel
    have HO2 := Lib.hid ho
    have HB2 := Lib.hid hb
    obtain ⟨tl, htl⟩ : ∃ tl, turnL z R C k = tl := ⟨_, rfl⟩
    have HTL := Lib.hid htl
    rw [htl] at HO2 ⊢
    clear ho hb htl
    by_cases hlt : k < C
    · have hlt' : (k : Int) < (C : Int) := by omega
      go_wp2_with fail
      go_loopw [5, 7] (fun s j wr => TriRel z R C k w s j wr) (fun _ j _ => n + C - (intOf j).toNat)
      case atStart => exact ⟨0, k, tl, b, cp, Nat.zero_le _, by omega, by rw [HTL.out]; simp [colL], rfl, rfl, HO2.out, HB2.out⟩
      case round =>
        obtain ⟨r, J, xl, b, cp, hr, hJ, hxl, rfl, rfl, ho, hb⟩ := hrel
        obtain ⟨t1, t2, t3⟩ := tri_lt hJ hlt HN.out hr
        have HJ := Lib.hid hJ
        have HXL := Lib.hid hxl
        have HO3 := Lib.hid ho
        have HB3 := Lib.hid hb
        have hxn : xl.length ≤ 512 := by
          rw [hxl, List.length_append, turnL_length, colL_length]
          have := HR.out
          have h2 := Nat.mul_le_mul (show k ≤ 16 by omega) this
          omega
        have hxl2 := Lib.hid hxn
        have A1 := Lib.hid (show xl.length + 1 ≤ maxLen by unfold maxLen; omega)
        have A2 := Lib.hid (show (xl.length + 1) * 4 ≤ 140737488355328 by omega)
        have BAS := Lib.hid (fun o => show w.heap.size ≤ (wr.alloc o).heap.size by have := hb.size; simp only [World.size_alloc]; omega)
        have hJ0 : (0 : Int) ≤ (J : Int) := by omega
        have T2 := Lib.hid t2
        clear ho hb hJ hxl hxn t2
        by_cases hrl : r < R
        · have hJn := t1.2 hrl
          have hJn' : (J : Int) < (n : Int) := by omega
          rcases H.out.2.2.2.2 with h' | ⟨ab, off, rfl, hab, hcell⟩
          · omega
          have hx : wr.cell? ⟨ab, off + J, none⟩ = some (.float .f32 (z.getD J 0)) := (HB3.out.cell (p := ⟨ab, off + J, none⟩) hab).trans (hcell J hJn)
          obtain ⟨y, hy⟩ : ∃ y, z.getD J 0 = y := ⟨_, rfl⟩
          rw [hy] at hx
          have HY := Lib.hid (show z.getD (r * C + k) 0 = y by rw [HJ.out]; exact hy)
          have HYL := Lib.hid (show y < 2 ^ 32 by
            rw [← hy]
            exact H.out.2.2.2.1 _ (by simp [List.getD, show J < z.length by rw [H.out.2.2.1]; exact hJn]))
          have hJC : (J : Int) + (C : Int) ≤ 512 := by omega
          clear hcell hy t1 t3
          go_wp2_with (at_builtin; refine wpList_append_any _ rfl (.tmp 23) (.tmp 28) 22 rfl w.heap.size 46 i0 (.float .f32 0) 1 4 Try.underlying22 JI.out HZ0.out HZ1.out HZ2.out rfl Nat.one_pos (.slice b xl.length cp) xl.length (xl.map (Value.float .f32)) rfl (trl_own HO3.out) (wr.heap.size + 1) (some ⟨wr.heap.size, 0, none⟩) 1 1 [.float .f32 y] rfl trl_reads (trl_one _) A1.out A2.out (BAS.out _) ?_; intro v' w' hown hgr hat; obtain ⟨a', c', rfl⟩ := ownsRow_slice hown; have HMD := Lib.hid (trl_next HO3.out HB3.out HYL.out hown hgr); clear hown hgr hat)
          go_roundw
          case rel =>
            refine ⟨r + 1, J + C, xl ++ [y], a', c', by omega, T2.out, ?_, by go_num, by simp, HMD.out.1, HMD.out.2⟩
            rw [colL_succ, HXL.out, HY.out, List.append_assoc]
          case measure => simp [intOf]; omega
        · obtain rfl : r = R := by omega
          have hJn := t3 rfl
          have hJn' : ¬ (J : Int) < (n : Int) := by omega
          have HT := Lib.hid (show turnL z r C (k + 1) = xl by rw [turnL_succ, HTL.out]; exact (HXL.out.trans (by rw [HTL.out])).symm)
          clear t1 t3
          go_wp2_with fail
          go_roundw
          case rel => exact ⟨k + 1, b, cp, by omega, by go_num, by rw [HT.out], by rw [HT.out]; exact HO3.out, HB3.out⟩
          case measure => simp [intOf]; omega
    · have hlt' : ¬ (k : Int) < (C : Int) := by omega
      obtain rfl : k = C := by omega
      go_wp2_with fail
      go_ret
      exact ⟨b, cp, by rw [HTL.out]; rfl, by rw [HTL.out]; exact HO2.out, HB2.out⟩
set_option maxHeartbeats 2000000 in
theorem t_iTransposeTensor (r c : Int) (z : List Nat) (a0 : Option Addr) (w : World) (h0 : IsFloats .f32 w a0 z.length z.length z) :
    Calls Try.prog 29 #[.agg #[.int .i64 r, .int .i64 c, .slice a0 z.length z.length]] w (RetT (vTransposeTensor r c z).1 (vTransposeTensor r c z).2.1 (vTransposeTensor r c z).2.2.1 (vTransposeTensor r c z).2.2.2 w) := by
  have hn : z.length ≤ 9223372036854775807 := by have := h0.2.1; unfold maxLen at this; exact this
  have HI := Lib.hid h0
  clear h0
  cases hv : vokB r c z.length with
  | false =>
    have HV := Lib.hid hv
    have HX := Lib.hid (show vTransposeTensor r c z = (0, 0, false, []) by unfold vTransposeTensor; rw [if_neg (by rw [hv]; decide)])
    clear hv
    rw [HX.out]
    go_enter Try.func29, Try.ntmps29
    go_wp2_with fail
    have B_0 := Lib.hid (Below.refl w.heap.size w)
    have bl := (Below.refl (w).heap.size (w)).alloc (Nat.le_refl _) (.cells #[.int .i64 r, .int .i64 c, .slice a0 z.length z.length] 26)
    have hn := Blk.new (w) 26 #[.int .i64 r, .int .i64 c, .slice a0 z.length z.length]
    have B_1 := Lib.hid (Below.next B_0.out bl)
    clear bl B_0
    have K_1 := Lib.hid hn
    clear hn
    have bl := (Below.refl ((w).alloc (.cells #[.int .i64 r, .int .i64 c, .slice a0 z.length z.length] 26)).heap.size ((w).alloc (.cells #[.int .i64 r, .int .i64 c, .slice a0 z.length z.length] 26))).alloc (Nat.le_refl _) (.cells #[.int .i64 0, .int .i64 0, .slice none 0 0] 26)
    have hn := Blk.new ((w).alloc (.cells #[.int .i64 r, .int .i64 c, .slice a0 z.length z.length] 26)) 26 #[.int .i64 0, .int .i64 0, .slice none 0 0]
    simp only [World.size_alloc] at hn
    have B_2 := Lib.hid (Below.next B_1.out bl)
    have K_2 := Lib.hid (K_1.out.below bl)
    clear bl B_1 K_1
    have Q_2 := Lib.hid hn
    clear hn
    generalize ((w).alloc (.cells #[.int .i64 r, .int .i64 c, .slice a0 z.length z.length] 26)).alloc (.cells #[.int .i64 0, .int .i64 0, .slice none 0 0] 26) = w2 at B_2 K_2 Q_2 ⊢
    refine (c_iValid r c _ _ _ false HV.out _).mono ?_
    rintro e w3 ⟨rfl, bl⟩
    have B_3 := Lib.hid (Below.next B_2.out bl)
    have K_3 := Lib.hid (K_2.out.below bl)
    have Q_3 := Lib.hid (Q_2.out.below bl)
    clear bl B_2 K_2 Q_2
    obtain ⟨pK0, pK1, pK2, pK3⟩ := tb K_3.out
    obtain ⟨pQ0, pQ1, pQ2, pQ3⟩ := tb Q_3.out
    obtain ⟨fq0, fq1, fq2⟩ := tbf Q_3.out
    go_wp2_with fail
    exact bodyPost_ret (v := .tuple #[.agg #[.int .i64 0, .int .i64 0, .slice none 0 0], .bool false]) (by simp [results, Try.results29, go_sem, pQ0, pQ1, pQ2]) rfl ⟨none, 0, [], rfl, nil_own _ _, rfl, ((B_3.out.setCell (by simp) _).setCell (by simp) _).setCell (by simp) _⟩
  | true =>
    obtain ⟨R, C, rfl, rfl, h1, h2, h3, h4, h5⟩ := vok_nat hv
    have H5 := Lib.hid h5
    clear h5
    have HV := Lib.hid hv
    have HX := Lib.hid (vTransposeTensor_yes hv)
    obtain ⟨i0, hi, hz0, hz1, hz2⟩ := info_parts info_f32
    have JI := Lib.hid hi
    have HZ0 := Lib.hid hz0
    have HZ1 := Lib.hid hz1
    have HZ2 := Lib.hid hz2
    clear hi hz0 hz1 hz2
    clear hv
    rw [HX.out]
    obtain ⟨vals, hvals⟩ : ∃ vals, ((List.range (C * R)).map (turnF z R C)) = vals := ⟨_, rfl⟩
    have HV2 := Lib.hid hvals
    rw [hvals]
    clear hvals
    go_enter Try.func29, Try.ntmps29
    go_wp2_with fail
    have B_0 := Lib.hid (Below.refl w.heap.size w)
    have bl := (Below.refl (w).heap.size (w)).alloc (Nat.le_refl _) (.cells #[.int .i64 (R : Int), .int .i64 (C : Int), .slice a0 z.length z.length] 26)
    have hn := Blk.new (w) 26 #[.int .i64 (R : Int), .int .i64 (C : Int), .slice a0 z.length z.length]
    have B_1 := Lib.hid (Below.next B_0.out bl)
    clear bl B_0
    have K_1 := Lib.hid hn
    clear hn
    have bl := (Below.refl ((w).alloc (.cells #[.int .i64 (R : Int), .int .i64 (C : Int), .slice a0 z.length z.length] 26)).heap.size ((w).alloc (.cells #[.int .i64 (R : Int), .int .i64 (C : Int), .slice a0 z.length z.length] 26))).alloc (Nat.le_refl _) (.cells #[.int .i64 0, .int .i64 0, .slice none 0 0] 26)
    have hn := Blk.new ((w).alloc (.cells #[.int .i64 (R : Int), .int .i64 (C : Int), .slice a0 z.length z.length] 26)) 26 #[.int .i64 0, .int .i64 0, .slice none 0 0]
    simp only [World.size_alloc] at hn
    have B_2 := Lib.hid (Below.next B_1.out bl)
    have K_2 := Lib.hid (K_1.out.below bl)
    clear bl B_1 K_1
    have Q_2 := Lib.hid hn
    clear hn
    generalize ((w).alloc (.cells #[.int .i64 (R : Int), .int .i64 (C : Int), .slice a0 z.length z.length] 26)).alloc (.cells #[.int .i64 0, .int .i64 0, .slice none 0 0] 26) = w2 at B_2 K_2 Q_2 ⊢
    refine (c_iValid (R : Int) (C : Int) _ _ _ true HV.out _).mono ?_
    rintro e w3 ⟨rfl, bl⟩
    have B_3 := Lib.hid (Below.next B_2.out bl)
    have K_3 := Lib.hid (K_2.out.below bl)
    have Q_3 := Lib.hid (Q_2.out.below bl)
    clear bl B_2 K_2 Q_2
    obtain ⟨pK0, pK1, pK2, pK3⟩ := tb K_3.out
    obtain ⟨pQ0, pQ1, pQ2, pQ3⟩ := tb Q_3.out
    obtain ⟨fq0, fq1, fq2⟩ := tbf Q_3.out
    go_wp2_with fail
    have hne : w.heap.size ≠ w.heap.size + 1 := by omega
    have HF2 := Lib.hid (HI.out.kept B_3.out)
    go_region_held3 (fun w' => w'.cell? ⟨w.heap.size, 0, none⟩ = some (.int .i64 (R : Int)) ∧ w'.cell? ⟨w.heap.size, 1, none⟩ = some (.int .i64 (C : Int)) ∧ w'.cell? ⟨w.heap.size, 2, none⟩ = some (.slice a0 z.length z.length)) (go_keep)
      (first
        | (go_at_call 83
           refine (c_transposeList R C a0 z.length z.length z _ (HF2.out.kept ((Below.refl w3.heap.size w3).drew)) h2 h3 h4 H5.out).mono ?_
           rintro e w4 ⟨b, cc, rfl, hf, hb⟩
           have hb1 : Below w3.heap.size w3 w4 := ((Below.refl _ _).drew).trans hb
           have HW := Lib.hid (hf.base (B' := w.heap.size) B_3.out.size)
           have B_4 := Lib.hid (Below.next B_3.out hb1)
           have K_4 := Lib.hid (K_3.out.below hb1)
           have Q_4 := Lib.hid (Q_3.out.below hb1)
           clear hf hb hb1 pK0 pK1 pK2 pK3 pQ0 pQ1 pQ2 pQ3 fq0 fq1 fq2
           obtain ⟨pK0, pK1, pK2, pK3⟩ := tb K_4.out
           obtain ⟨pQ0, pQ1, pQ2, pQ3⟩ := tb Q_4.out
           obtain ⟨fq0, fq1, fq2⟩ := tbf Q_4.out))
    go_wp2_with fail
    exact bodyPost_ret (v := .tuple #[.agg #[.int .i64 (C : Int), .int .i64 (R : Int), .slice b (turnL z R C C).length cc], .bool true]) (by simp [results, Try.results29, go_sem, pQ0, pQ1, pQ2]) rfl ⟨b, cc, turnL z R C C, rfl, HW.out.off (store3 Q_4.out).2 Q_4.out (by decide), ((turn_map z R C C).trans HV2.out), ((B_4.out.setCell (by simp) _).setCell (by simp) _).setCell (by simp) _⟩
end Go.Proofs.Ytkfpaehalfjhhaa
