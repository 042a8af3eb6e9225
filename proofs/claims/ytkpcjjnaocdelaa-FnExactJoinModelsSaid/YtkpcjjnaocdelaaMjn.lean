/-
  Joining two models: what the model and the program answer. Conditions: the cells can be read.
-/
import Derived.Test.YtkpcjjnaocdelaaMspl
import Derived.Lib.AppendZerosOnto
import Derived.Lib.SliceRun
import Derived.Deep.Cut
import Derived.Deep.DeepCutAuto
namespace Go.Proofs.Ytkpcjjnaocdelaa
open Go.RowKit Go.Deep Go.WideShapes Go.ChangeShapes Go.Maps
set_option linter.unusedVariables false
set_option linter.unusedSimpArgs false
attribute [local go_sem] World.drewN_zero

def vJoinModels (ps qs : List LayP) : Bool × List LayP := if vMod ps && vMod qs && vMod (ps ++ qs) then (true, (ps ++ qs).map LayP.can) else (false, [])
theorem vJoinModels_len (ps qs : List LayP) : 3 * (vJoinModels ps qs).2.length + laySum (vJoinModels ps qs).2 ≤ 1048576 := by
  unfold vJoinModels
  split
  · rename_i h
    rw [Bool.and_eq_true] at h
    obtain ⟨v1, v6, v432⟩ := vMod_parts h.2
    have hc : ∀ qs : List LayP, laySum (qs.map LayP.can) = laySum qs := by
      intro qs
      unfold laySum
      rw [List.map_map]
      congr 1
      refine List.map_congr_left fun x _ => ?_
      simp [LayP.n, LayP.can]
    dsimp only
    rw [hc, List.length_map]
    omega
  · simp [laySum]
theorem Blk.offo {w w' : World} {g : Nat} {t : TypeId} {cs : Array Value} {o : Option Nat} (h : Blk w g t cs) (hg : w.grownBy w' o) (hne : some g ≠ o) : Blk w' g t cs := (hg.block g h.lt hne).trans h
theorem built_own {w : World} {B : Nat} {t : TypeId} (h : B ≤ w.heap.size) (hm : w.heap.size < w.heap.size + 1) : (w.alloc (.cells #[] t)).ownsRow B t 5 (.slice (some ⟨w.heap.size, 0, none⟩) 0 0) 0 [] :=
  ⟨rfl, .inr ⟨w.heap.size, 0, #[], rfl, h, heap_alloc_new _ _, Nat.le_refl _, Nat.zero_le _, rfl, rfl⟩⟩
/-- a row made of the cells of two lists can be read -/
theorem lays_row {w : World} {B : Nat} {g : Option Addr} {cap n m : Nat} {xs ys : List LayA} {g1 g2 : Option Addr} {c1 c2 : Nat} (h1 : LaysAt w g1 n c1 xs) (h2 : LaysAt w g2 m c2 ys)
    (ho : w.ownsRow B 59 5 (.slice g (n + m) cap) (n + m) (vs (laysC xs) ++ vs (laysC ys))) (hm : n + m ≤ maxLen) : LaysAt w g (n + m) cap (xs ++ ys) := by
  rw [← vs_append, ← laysC_append] at ho
  refine ⟨by rw [List.length_append, h1.1, h2.1], ?_, ?_, ?_, ?_⟩
  · rcases ho.2 with ⟨hv, h0⟩ | ⟨b, c, cur, hv, hb, hg, hn, hc, _⟩
    · simp only [Value.slice.injEq] at hv; omega
    · simp only [Value.slice.injEq] at hv; omega
  · rcases ho.2 with ⟨hv, h0⟩ | ⟨b, c, cur, hv, hb, hg, hn, hc, _⟩
    · simp only [Value.slice.injEq] at hv; have : cap = 0 := hv.2.2; omega
    · simp only [Value.slice.injEq] at hv; have : cap = c := hv.2.2; omega
  · rw [laysC_append, AtL_iff]
    intro c hc
    rcases List.mem_append.1 hc with h | h
    · exact AtL_iff.1 h1.2.2.2.1 c h
    · exact AtL_iff.1 h2.2.2.2.1 c h
  · rcases ho.2 with ⟨hv, h0⟩ | ⟨b, c, cur, hv, hb, hg, hn, hc, hl, _⟩
    · exact .inl (by omega)
    · simp only [Value.slice.injEq] at hv
      obtain ⟨rfl, _, rfl⟩ := hv
      refine .inr ⟨b, 0, rfl, (ho.lt _ rfl).2, fun i hi => ?_⟩
      rw [Nat.zero_add]
      exact ho.cellAt i hi
theorem join_end {w3 w5 : World} {g1 g2 : Option Addr} {n m c1 c2 : Nat} {xs ys : List LayA} {a : Option Addr} {c ad : Nat} {v0 v : Value} (h1 : LaysAt w3 g1 n c1 xs) (h2 : LaysAt w3 g2 m c2 ys) (hb : Below w3.heap.size w3 w5)
    (ho : w5.ownsRow w3.heap.size 59 5 (.slice a (n + m) c) (n + m) (vs (laysC xs) ++ vs (laysC ys))) (hm : n + m ≤ maxLen) (hk : Blk w5 ad 41 #[v0]) (ha : w3.heap.size ≤ ad) (hne : ∀ b, blk a = some b → b ≠ ad) :
    LaysAt (w5.setCell ⟨ad, 0, none⟩ v) a (n + m) c (xs ++ ys) := by
  have hg := (storec1 (y0 := v) hk).2
  have hb' := Below.at_ hb hg ha
  refine lays_row (h1.kept hb') (h2.kept hb') (ownsRow_in ho (GrownIn.of_grown (a := some ⟨ad, 0, none⟩) hg) fun q hq hs => ?_) hm
  simp [blk] at hs
  simp only [Option.mem_toList] at hq
  exact hne q hq hs
theorem ne5 {a' a2 : Option Addr} {AD S : Nat} (hat : blk a2 = blk a' ∨ blk a2 = some S) (h1 : some AD ≠ blk a') (h2 : AD ≠ S) : ∀ b, blk a2 = some b → b ≠ AD := by
  intro b hb e
  subst e
  rcases hat with h | h
  · exact h1 (by rw [← h, hb])
  · rw [hb] at h; exact h2 (by injection h)
def JoinCut (w3 : World) (N : Nat) (ls : List LayA) (p : Value) (wx : World) : Prop :=
  ∃ (ad : Nat) (a : Option Addr) (c : Nat), p = .pointer (some ⟨ad, 0, none⟩) ∧ w3.heap.size ≤ ad ∧ Blk wx ad 41 #[.slice a N c] ∧ LaysAt wx a N c ls ∧ Below w3.heap.size w3 wx
set_option maxRecDepth 20000 in
set_option maxHeartbeats 4000000 in
theorem t_sJoinModels (ps : List LayP) (n : Nat) (g : Option Addr) (c : Nat) (y : List LayA) (qs : List LayP) (m : Nat) (g' : Option Addr) (c' : Nat) (z : List LayA) (w : World) (hp : y.map LayA.p = ps) (h : LaysAt w g n c y) (hp' : z.map LayA.p = qs) (h' : LaysAt w g' m c' z) :
    Calls Try.prog 48 #[.agg #[.slice g n c], .agg #[.slice g' m c']] w (RetM (vJoinModels ps qs).1 (vJoinModels ps qs).2 w) := by
  subst hp hp'
  obtain ⟨k1, k2, k3, bb⟩ := three_boxes w 41 #[.slice g n c] #[.slice g' m c'] #[.slice none 0 0]
  have K1 := Lib.hid k1
  have K2 := Lib.hid k2
  have K3 := Lib.hid k3
  have B := Lib.hid bb
  have H := Lib.hid (h.kept bb)
  have H' := Lib.hid (h'.kept bb)
  cases hv : vMod (y.map LayA.p) with
  | false =>
    have HV := Lib.hid hv
    rw [show vJoinModels (y.map LayA.p) (z.map LayA.p) = (false, []) by simp [vJoinModels, hv]]
    clear k1 k2 k3 bb h h' hv
    go_enter Try.func48, Try.ntmps48
    go_wp2_with fail
    generalize ((w.alloc (.cells #[.slice g n c] 41)).alloc (.cells #[.slice g' m c'] 41)).alloc (.cells #[.slice none 0 0] 41) = w1 at K1 K2 K3 B H H' ⊢
    obtain ⟨p0, pl⟩ := tb1 K1.out
    refine (c_l03Is w.heap.size 0 g c n y false HV.out w1 p0 H.out).mono ?_
    rintro e w2 ⟨rfl, d, rfl⟩
    have B2 := Lib.hid (below_drewN B.out d)
    have K32 := Lib.hid (K3.out.below (below_drewN (Below.refl _ _) d))
    generalize w1.drewN d = w2 at B2 K32 ⊢
    clear p0 pl
    obtain ⟨t0, tl⟩ := tb1 K32.out
    have f1 := K32.out.frozen 0
    go_wp2_with fail
    refine bodyPost_ret (v := .tuple #[.agg #[.slice none 0 0], .bool false]) (by simp [results, Try.results48, go_sem, t0]) rfl (retM_no ?_)
    exact B2.out.setCell (p := ⟨w.heap.size + 1 + 1, 0, none⟩) (by simp; omega) _
  | true =>
    have HV := Lib.hid hv
    have V1 := Lib.hid (vMod_parts hv)
    cases hv' : vMod (z.map LayA.p) with
    | false =>
      have HV' := Lib.hid hv'
      rw [show vJoinModels (y.map LayA.p) (z.map LayA.p) = (false, []) by simp [vJoinModels, hv']]
      clear k1 k2 k3 bb h h' hv hv'
      go_enter Try.func48, Try.ntmps48
      go_wp2_with fail
      generalize ((w.alloc (.cells #[.slice g n c] 41)).alloc (.cells #[.slice g' m c'] 41)).alloc (.cells #[.slice none 0 0] 41) = w1 at K1 K2 K3 B H H' ⊢
      obtain ⟨p0, pl⟩ := tb1 K1.out
      refine (c_l03Is w.heap.size 0 g c n y true HV.out w1 p0 H.out).mono ?_
      rintro e w2 ⟨rfl, d, rfl⟩
      have bd := below_drewN (Below.refl w1.heap.size w1) d
      have B2 := Lib.hid (below_drewN B.out d)
      have K22 := Lib.hid (K2.out.below bd)
      have K32 := Lib.hid (K3.out.below bd)
      have H2' := Lib.hid (H'.out.kept bd)
      clear bd
      generalize w1.drewN d = w2 at B2 K22 K32 H2' ⊢
      clear p0 pl
      go_wp2_with fail
      obtain ⟨p0, pl⟩ := tb1 K22.out
      refine (c_l03Is (w.heap.size + 1) 0 g' c' m z false HV'.out w2 p0 H2'.out).mono ?_
      rintro e w3 ⟨rfl, d, rfl⟩
      have B3 := Lib.hid (below_drewN B2.out d)
      have K33 := Lib.hid (K32.out.below (below_drewN (Below.refl _ _) d))
      generalize w2.drewN d = w3 at B3 K33 ⊢
      clear p0 pl
      obtain ⟨t0, tl⟩ := tb1 K33.out
      have f1 := K33.out.frozen 0
      go_wp2_with fail
      refine bodyPost_ret (v := .tuple #[.agg #[.slice none 0 0], .bool false]) (by simp [results, Try.results48, go_sem, t0]) rfl (retM_no ?_)
      exact B3.out.setCell (p := ⟨w.heap.size + 1 + 1, 0, none⟩) (by simp; omega) _
    | true =>
      have HV' := Lib.hid hv'
      have V2 := Lib.hid (vMod_parts hv')
      have hn : n ≤ 6 := by rw [← h.1]; simpa using V1.out.2.1
      have hm : m ≤ 6 := by rw [← h'.1]; simpa using V2.out.2.1
      obtain ⟨i0, hi, hz0, hz1, hz2⟩ := info_parts info_lay
      have HI := Lib.hid hi
      have HZ0 := Lib.hid hz0
      have HZ1 := Lib.hid hz1
      have HZ2 := Lib.hid hz2
      have A1 := Lib.hid (show 0 + n ≤ maxLen by unfold maxLen; omega)
      have A2 := Lib.hid (show (0 + n) * 72 ≤ 140737488355328 by omega)
      have A3 := Lib.hid (show n + m ≤ maxLen by unfold maxLen; omega)
      have A4 := Lib.hid (show (n + m) * 72 ≤ 140737488355328 by omega)
      clear k1 k2 k3 bb h h' hv hv' hi hz0 hz1 hz2
      go_enter Try.func48, Try.ntmps48
      go_wp2_with fail
      generalize ((w.alloc (.cells #[.slice g n c] 41)).alloc (.cells #[.slice g' m c'] 41)).alloc (.cells #[.slice none 0 0] 41) = w1 at K1 K2 K3 B H H' ⊢
      obtain ⟨p0, pl⟩ := tb1 K1.out
      refine (c_l03Is w.heap.size 0 g c n y true HV.out w1 p0 H.out).mono ?_
      rintro e w2 ⟨rfl, d, rfl⟩
      have bd := below_drewN (Below.refl w1.heap.size w1) d
      have B2 := Lib.hid (below_drewN B.out d)
      have K12 := Lib.hid (K1.out.below bd)
      have K22 := Lib.hid (K2.out.below bd)
      have K32 := Lib.hid (K3.out.below bd)
      have H2 := Lib.hid (H.out.kept bd)
      have H2' := Lib.hid (H'.out.kept bd)
      clear bd
      generalize w1.drewN d = w2 at B2 K12 K22 K32 H2 H2' ⊢
      clear p0 pl
      go_wp2_with fail
      obtain ⟨p0, pl⟩ := tb1 K22.out
      refine (c_l03Is (w.heap.size + 1) 0 g' c' m z true HV'.out w2 p0 H2'.out).mono ?_
      rintro e w3 ⟨rfl, d, rfl⟩
      have bd := below_drewN (Below.refl w2.heap.size w2) d
      have B3 := Lib.hid (below_drewN B2.out d)
      have K13 := Lib.hid (K12.out.below bd)
      have K23 := Lib.hid (K22.out.below bd)
      have K33 := Lib.hid (K32.out.below bd)
      have H3 := Lib.hid (H2.out.kept bd)
      have H3' := Lib.hid (H2'.out.kept bd)
      clear bd
      generalize w2.drewN d = w3 at B3 K13 K23 K33 H3 H3' ⊢
      clear p0 pl
      obtain ⟨r0, rl⟩ := tb1 K13.out
      obtain ⟨s0, sl⟩ := tb1 K23.out
      go_upto_region 3 with fail
      go_cut [6] (fun p wx => JoinCut w3 (n + m) (y ++ z) p wx)
      case first =>
        have nr0 := World.new_ne w3 ⟨w.heap.size, 0, none⟩ r0
        have ns0 := World.new_ne w3 ⟨w.heap.size + 1, 0, none⟩ s0
        have ltm := Lib.hid (show w.heap.size + 1 + 1 < w3.heap.size from K33.out.lt)
        have al := (Below.refl w3.heap.size w3).alloc (Nat.le_refl _) (.cells #[] 59)
        have am := (Below.refl w3.heap.size w3).alloc (Nat.le_refl _) (.cells #[.slice none 0 0] 41)
        have BA := Lib.hid al.drew
        have BB := Lib.hid (al.alloc (by simp) (.cells #[.slice none 0 0] 41)).drew
        have BC := Lib.hid (am.alloc (by simp) (.cells #[] 59)).drew
        have own0 := built_own (w := w3) (t := 59) (Nat.le_refl _) (Nat.lt_succ_self _)
        have OA := Lib.hid (row_kept own0 ((Below.refl (w3.alloc (.cells #[] 59)).heap.size _).drew))
        have OB := Lib.hid (row_kept own0 (((Below.refl (w3.alloc (.cells #[] 59)).heap.size _).alloc (Nat.le_refl _) (.cells #[.slice none 0 0] 41)).drew))
        have own1 := built_own (w := w3.alloc (.cells #[.slice none 0 0] 41)) (t := 59) (B := w3.heap.size) (by simp) (by simp)
        simp only [World.size_alloc] at own1
        have OC := Lib.hid (row_kept own1 ((Below.refl ((w3.alloc (.cells #[.slice none 0 0] 41)).alloc (.cells #[] 59)).heap.size _).drew))
        have KB := Lib.hid ((Blk.new (w3.alloc (.cells #[] 59)) 41 #[.slice none 0 0]).below (Below.refl _ _).drew)
        have KC := Lib.hid (((Blk.new w3 41 #[.slice none 0 0]).below ((Below.refl _ _).alloc (Nat.le_refl _) (.cells #[] 59))).below (Below.refl _ _).drew)
        have RA := Lib.hid ((H3.out.kept BA.out).reads)
        have SA := Lib.hid BA.out.size
        have RB := Lib.hid ((H3.out.kept BB.out).reads)
        have SB := Lib.hid BB.out.size
        have RC := Lib.hid ((H3.out.kept BC.out).reads)
        have SC := Lib.hid BC.out.size
        simp only [World.size_alloc] at KB
        have rA := (tb1 (K13.out.below BA.out)).1
        have sA := (tb1 (K23.out.below BA.out)).1
        have rB := (tb1 (K13.out.below BB.out)).1
        have sB := (tb1 (K23.out.below BB.out)).1
        have rC := (tb1 (K13.out.below BC.out)).1
        have sC := (tb1 (K23.out.below BC.out)).1
        clear own0 own1 al am
        go_region_law (first
          | (refine step_append_any _ rfl (.tmp 14) (.tmp 16) 39 rfl w3.heap.size 59 i0 (.agg #[.int .i64 0, .int .i64 0, .int .i64 0, .slice none 0 0, .slice none 0 0]) 5 72 Try.underlying39 HI.out HZ0.out HZ1.out HZ2.out rfl (by omega) (.slice (some ⟨w3.heap.size, 0, none⟩) 0 0) 0 [] rfl OA.out _ g n c (vs (laysC y)) rfl RA.out (ones_lays _) A1.out A2.out SA.out ?_; intro v' w4 hown hgr hat; obtain ⟨a', c1', rfl⟩ := ownsRow_slice hown; rw [Nat.zero_add] at hown; rw [List.nil_append] at hown; have O4 := Lib.hid hown; have BL4 := Lib.hid (BA.out.grown hgr BA.out.size (fun k hk => by rw [ownBlock_slice] at hk; simp [blk] at hk; omega)); have R4 := Lib.hid ((H3'.out.kept BL4.out).reads); have S4 := Lib.hid BL4.out.size; have s4 := (tb1 (K23.out.below BL4.out)).1; have nn4 := World.new_ne w4 ⟨w.heap.size + 1, 0, none⟩ s4; have am4 := (Below.refl w4.heap.size w4).alloc (Nat.le_refl _) (.cells #[.slice none 0 0] 41); have O4m := Lib.hid (row_kept hown am4); have BL4m := Lib.hid (BL4.out.trans (am4.mono BL4.out.size)); have R4m := Lib.hid ((H3'.out.kept BL4m.out).reads); have S4m := Lib.hid BL4m.out.size; have s4m := (tb1 (K23.out.below BL4m.out)).1; have KMD := Lib.hid (Blk.new w4 41 #[.slice none 0 0]); clear am4; clear hown hgr hat)
          | (refine step_append_any _ rfl (.tmp 14) (.tmp 16) 39 rfl w3.heap.size 59 i0 (.agg #[.int .i64 0, .int .i64 0, .int .i64 0, .slice none 0 0, .slice none 0 0]) 5 72 Try.underlying39 HI.out HZ0.out HZ1.out HZ2.out rfl (by omega) (.slice (some ⟨w3.heap.size, 0, none⟩) 0 0) 0 [] rfl OB.out _ g n c (vs (laysC y)) rfl RB.out (ones_lays _) A1.out A2.out SB.out ?_; intro v' w4 hown hgr hat; obtain ⟨a', c1', rfl⟩ := ownsRow_slice hown; rw [Nat.zero_add] at hown; rw [List.nil_append] at hown; have O4 := Lib.hid hown; have BL4 := Lib.hid (BB.out.grown hgr BB.out.size (fun k hk => by rw [ownBlock_slice] at hk; simp [blk] at hk; omega)); have KMQ := Lib.hid (KB.out.offo hgr (by rw [ownBlock_slice]; simp [blk])); have NE := Lib.hid (show some (w3.heap.size + 1) ≠ blk a' by intro e; rw [ownBlock_slice, ownBlock_slice, ← e] at hat; rcases hat with h | h <;> (simp [blk] at h; try omega)); have R4 := Lib.hid ((H3'.out.kept BL4.out).reads); have S4 := Lib.hid BL4.out.size; have s4 := (tb1 (K23.out.below BL4.out)).1; have nn4 := World.new_ne w4 ⟨w.heap.size + 1, 0, none⟩ s4; clear hown hgr hat)
          | (refine step_append_any _ rfl (.tmp 14) (.tmp 16) 39 rfl w3.heap.size 59 i0 (.agg #[.int .i64 0, .int .i64 0, .int .i64 0, .slice none 0 0, .slice none 0 0]) 5 72 Try.underlying39 HI.out HZ0.out HZ1.out HZ2.out rfl (by omega) (.slice (some ⟨w3.heap.size + 1, 0, none⟩) 0 0) 0 [] rfl OC.out _ g n c (vs (laysC y)) rfl RC.out (ones_lays _) A1.out A2.out SC.out ?_; intro v' w4 hown hgr hat; obtain ⟨a', c1', rfl⟩ := ownsRow_slice hown; rw [Nat.zero_add] at hown; rw [List.nil_append] at hown; have O4 := Lib.hid hown; have BL4 := Lib.hid (BC.out.grown hgr BC.out.size (fun k hk => by rw [ownBlock_slice] at hk; simp [blk] at hk; omega)); have KMQ := Lib.hid (KC.out.offo hgr (by rw [ownBlock_slice]; simp [blk])); have NE := Lib.hid (show some (w3.heap.size) ≠ blk a' by intro e; rw [ownBlock_slice, ownBlock_slice, ← e] at hat; rcases hat with h | h <;> (simp [blk] at h; try omega)); have R4 := Lib.hid ((H3'.out.kept BL4.out).reads); have S4 := Lib.hid BL4.out.size; have s4 := (tb1 (K23.out.below BL4.out)).1; have nn4 := World.new_ne w4 ⟨w.heap.size + 1, 0, none⟩ s4; clear hown hgr hat)
          | (refine step_append_any _ rfl (.tmp 17) (.tmp 19) 39 rfl w3.heap.size 59 i0 (.agg #[.int .i64 0, .int .i64 0, .int .i64 0, .slice none 0 0, .slice none 0 0]) 5 72 Try.underlying39 HI.out HZ0.out HZ1.out HZ2.out rfl (by omega) (.slice a' n c1') n _ rfl O4m.out _ g' m c' (vs (laysC z)) rfl R4m.out (ones_lays _) A3.out A4.out S4m.out ?_; intro v' w5 hown hgr hat; obtain ⟨a2, c2', rfl⟩ := ownsRow_slice hown; have O5 := Lib.hid hown; have BL5 := Lib.hid (BL4m.out.grown hgr BL4m.out.size (fun k hk => by rw [ownBlock_slice] at hk; have := (ownsRow_lt O4m.out k (by rw [hk]; simp)).1; exact this)); have NE5 := Lib.hid (ne5 (AD := w4.heap.size) (by rw [ownBlock_slice, ownBlock_slice] at hat; exact hat) (fun e => by have := (ownsRow_lt O4.out w4.heap.size (by rw [← e]; simp)).2; omega) (by simp)); have KM5 := Lib.hid (KMD.out.offo hgr (fun e => by rw [ownBlock_slice] at e; have := (ownsRow_lt O4.out w4.heap.size (by rw [← e]; simp)).2; omega)); have km5 := (tb1 KM5.out).1; have kf5 := KM5.out.frozen 0; clear hown hgr hat)
          | (refine step_append_any _ rfl (.tmp 17) (.tmp 19) 39 rfl w3.heap.size 59 i0 (.agg #[.int .i64 0, .int .i64 0, .int .i64 0, .slice none 0 0, .slice none 0 0]) 5 72 Try.underlying39 HI.out HZ0.out HZ1.out HZ2.out rfl (by omega) (.slice a' n c1') n _ rfl O4.out _ g' m c' (vs (laysC z)) rfl R4.out (ones_lays _) A3.out A4.out S4.out ?_; intro v' w5 hown hgr hat; obtain ⟨a2, c2', rfl⟩ := ownsRow_slice hown; have O5 := Lib.hid hown; have BL5 := Lib.hid (BL4.out.grown hgr BL4.out.size (fun k hk => by rw [ownBlock_slice] at hk; have := (ownsRow_lt O4.out k (by rw [hk]; simp)).1; exact this)); have NE5 := Lib.hid (ne5 (by rw [ownBlock_slice, ownBlock_slice] at hat; exact hat) NE.out (Nat.ne_of_lt KMQ.out.lt)); have KM5 := Lib.hid (KMQ.out.offo hgr (fun e => NE.out (by rw [ownBlock_slice] at e; exact e))); have km5 := (tb1 KM5.out).1; have kf5 := KM5.out.frozen 0; clear hown hgr hat)
          | (refine step_append_any _ rfl (.tmp 17) (.tmp 19) 39 rfl w3.heap.size 59 i0 (.agg #[.int .i64 0, .int .i64 0, .int .i64 0, .slice none 0 0, .slice none 0 0]) 5 72 Try.underlying39 HI.out HZ0.out HZ1.out HZ2.out rfl (by omega) (.slice a' n c1') n _ rfl O4.out _ g' m c' (vs (laysC z)) rfl R4.out (ones_lays _) A3.out A4.out S4.out ?_; intro v' w5 hown hgr hat; obtain ⟨a2, c2', rfl⟩ := ownsRow_slice hown; have O5 := Lib.hid hown; have BL5 := Lib.hid (BL4.out.grown hgr BL4.out.size (fun k hk => by rw [ownBlock_slice] at hk; have := (ownsRow_lt O4.out k (by rw [hk]; simp)).1; exact this)); clear hown hgr hat))
        all_goals
         go_wp2_with fail
         go_meet
         first
          | exact ⟨_, a2, c2', rfl, Nat.le_trans BL5.out.size (Nat.le_refl _), Blk.new _ _ _, lays_row ((H3.out.kept BL5.out).kept ((Below.refl _ _).alloc (Nat.le_refl _) _)) ((H3'.out.kept BL5.out).kept ((Below.refl _ _).alloc (Nat.le_refl _) _)) (row_kept O5.out ((Below.refl _ _).alloc (Nat.le_refl _) _)) A3.out, BL5.out.alloc BL5.out.size _⟩
          | exact ⟨_, a2, c2', rfl, by first | exact S4.out | exact Nat.le_refl _ | exact Nat.le_succ _, (storec1 KM5.out).1, join_end H3.out H3'.out BL5.out O5.out A3.out KM5.out (by first | exact S4.out | exact Nat.le_refl _ | exact Nat.le_succ _) NE5.out, Below.at_ BL5.out (storec1 KM5.out).2 (by first | exact S4.out | exact Nat.le_refl _ | exact Nat.le_succ _)⟩
      case rest =>
        obtain ⟨w4, rfl⟩ : ∃ x : World, x = wc := ⟨_, rfl⟩
        obtain ⟨ad, a2, c2, rfl, hge, hk, hl, hb⟩ := hcut
        have K4 := Lib.hid hk
        have H4 := Lib.hid hl
        have B4 := Lib.hid (Below.next B3.out hb)
        have K34 := Lib.hid (K33.out.below hb)
        have GE := Lib.hid (show w.heap.size + 1 + 1 < ad from Nat.lt_of_lt_of_le K33.out.lt hge)
        have L4 := Lib.hid hk.lt
        have HAP := Lib.hid (show (y ++ z).map LayA.p = y.map LayA.p ++ z.map LayA.p from List.map_append)
        clear hge hk hl hb r0 rl s0 sl
        cases hvv : vMod ((y ++ z).map LayA.p) with
        | false =>
          have HVV := Lib.hid hvv
          clear hvv
          go_wp2_with fail
          obtain ⟨p0, pl⟩ := tb1 K4.out
          refine (c_l03Is ad 0 a2 c2 (n + m) (y ++ z) false HVV.out w4 p0 H4.out).mono ?_
          rintro e w5 ⟨rfl, d, rfl⟩
          have B5 := Lib.hid (below_drewN B4.out d)
          have K35 := Lib.hid (K34.out.below (below_drewN (Below.refl _ _) d))
          generalize w4.drewN d = w5 at B5 K35 ⊢
          clear p0 pl
          obtain ⟨t0, tl⟩ := tb1 K35.out
          have f1 := K35.out.frozen 0
          go_wp2_with fail
          refine bodyPost_ret (v := .tuple #[.agg #[.slice none 0 0], .bool false]) (by simp [results, Try.results48, go_sem, t0]) rfl ?_
          rw [show vJoinModels (y.map LayA.p) (z.map LayA.p) = (false, []) by unfold vJoinModels; rw [← HAP.out, HVV.out]; simp]
          exact retM_no (B5.out.setCell (p := ⟨w.heap.size + 1 + 1, 0, none⟩) (by simp; omega) _)
        | true =>
          have HVV := Lib.hid hvv
          have V3 := Lib.hid (vMod_parts hvv)
          have hnm6 : n + m ≤ 6 := by have h1 := V3.out.2.1; have h2 := H4.out.1; rw [List.length_map, h2] at h1; exact h1
          have HNM := Lib.hid hnm6
          clear hvv
          go_wp2_with fail
          obtain ⟨p0, pl⟩ := tb1 K4.out
          refine (c_l03Is ad 0 a2 c2 (n + m) (y ++ z) true HVV.out w4 p0 H4.out).mono ?_
          rintro e w5 ⟨rfl, d, rfl⟩
          have bd := below_drewN (Below.refl w4.heap.size w4) d
          have B5 := Lib.hid (below_drewN B4.out d)
          have K5 := Lib.hid (K4.out.below bd)
          have K35 := Lib.hid (K34.out.below bd)
          have H5 := Lib.hid (H4.out.kept bd)
          clear bd
          generalize w4.drewN d = w5 at B5 K5 K35 H5 ⊢
          clear p0 pl
          go_wp2_with fail
          obtain ⟨p0, pl⟩ := tb1 K5.out
          refine (c_l07Own ad a2 c2 (n + m) (y ++ z) w5 pl p0 H5.out V3.out.2.2 HNM.out).mono ?_
          rintro e w6 ⟨gs, cp, ys, rfl, hyl, hyp, ho, hnd, bl⟩
          have S5 := Lib.hid (show w.heap.size + 1 + 1 < w5.heap.size from K35.out.lt)
          have K36 := Lib.hid (K35.out.below bl)
          have B6 := Lib.hid (Below.next B5.out bl)
          have HYL := Lib.hid hyl
          have HYP := Lib.hid hyp
          have O6 := Lib.hid ho
          have ND := Lib.hid hnd
          clear bl hyl hyp ho hnd p0 pl
          obtain ⟨t0, tl⟩ := tb1 K36.out
          have f1 := K36.out.frozen 0
          go_wp2_with fail
          refine bodyPost_ret (v := .tuple #[.agg #[.slice gs (n + m) cp], .bool true]) (by simp [results, Try.results48, go_sem, t0]) rfl ?_
          rw [show vJoinModels (y.map LayA.p) (z.map LayA.p) = (true, (y.map LayA.p ++ z.map LayA.p).map LayP.can) by unfold vJoinModels; rw [← HAP.out, HV.out, HV'.out, HVV.out]; simp]
          refine ⟨gs, cp, ys, by rw [HYL.out], ?_, ?_, ?_, B6.out.setCell (p := ⟨w.heap.size + 1 + 1, 0, none⟩) (by simp; omega) _⟩
          · rw [HYL.out]; exact OwnL.base (show w.heap.size ≤ w5.heap.size by have := S5.out; omega) _ (O6.out.far (p := ⟨w.heap.size + 1 + 1, 0, none⟩) S5.out _)
          · rw [HYL.out]; exact ND.out
          · rw [← HAP.out, ← HYP.out]; simp
end Go.Proofs.Ytkpcjjnaocdelaa
