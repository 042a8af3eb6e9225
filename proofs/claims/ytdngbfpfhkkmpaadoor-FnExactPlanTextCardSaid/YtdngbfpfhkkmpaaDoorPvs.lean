/-
  Which plans are valid: the model. Conditions: the cells can be read.
-/
import Derived.Test.YtdngbfpfhkkmpaaDoorPvl
import Derived.BigRegion
namespace Go.Proofs.YtdngbfpfhkkmpaaDoor
open Go.RowKit Go.Sort
set_option linter.unusedVariables false
set_option linter.unusedSimpArgs false

set_option maxRecDepth 20000 in
set_option maxHeartbeats 2000000 in
theorem c_l09Layer (g off : Nat) (k i o : Int) (a b : Option Addr) (n m ca cb : Nat) (w : World)
    (q0 : w.cell? ⟨g, off, none⟩ = some (.int .i64 k)) (q1 : w.cell? ⟨g, off + 1, none⟩ = some (.int .i64 i)) (q2 : w.cell? ⟨g, off + 2, none⟩ = some (.int .i64 o))
    (q3 : w.cell? ⟨g, off + 3, none⟩ = some (.slice a n ca)) (q4 : w.cell? ⟨g, off + 4, none⟩ = some (.slice b m cb)) (hg : g < w.heap.size) :
    Calls Tryd.prog 33 #[.pointer (some ⟨g, off, none⟩)] w fun e w' => e = .returned (.agg #[.int .i64 k, .int .i64 i, .int .i64 o, .slice a n ca, .slice b m cb]) ∧ Below w.heap.size w w' := by
  have hne : ¬ g = w.heap.size := by omega
  have hne' : ¬ w.heap.size = g := by omega
  have al := (Below.refl w.heap.size w).alloc (Nat.le_refl _) (.cells #[.int .i64 0, .int .i64 0, .int .i64 0, .slice none 0 0, .slice none 0 0] 59)
  have K := Lib.hid (Blk.new w 59 #[.int .i64 0, .int .i64 0, .int .i64 0, .slice none 0 0, .slice none 0 0])
  have B := Lib.hid al
  have p0 := (al.cell (p := ⟨g, off, none⟩) hg).trans q0
  have p1 := (al.cell (p := ⟨g, off + 1, none⟩) hg).trans q1
  have p2 := (al.cell (p := ⟨g, off + 2, none⟩) hg).trans q2
  have p3 := (al.cell (p := ⟨g, off + 3, none⟩) hg).trans q3
  have p4 := (al.cell (p := ⟨g, off + 4, none⟩) hg).trans q4
  clear hg q0 q1 q2 q3 q4 al
  go_enter Tryd.func33, Tryd.ntmps33
  go_wp2_with fail
  generalize w.alloc (.cells #[.int .i64 0, .int .i64 0, .int .i64 0, .slice none 0 0, .slice none 0 0] 59) = w1 at K B p0 p1 p2 p3 p4 ⊢
  obtain ⟨s0, s1, s2, s3, s4, sl⟩ := tb5 K.out
  have f0 := K.out.frozen 0
  have f1 := K.out.frozen 1
  have f2 := K.out.frozen 2
  have f3 := K.out.frozen 3
  have f4 := K.out.frozen 4
  go_big_region
  all_goals
    go_wp2
    refine bodyPost_ret (v := .agg #[.int .i64 k, .int .i64 i, .int .i64 o, .slice a n ca, .slice b m cb]) (by simp [results, Tryd.results33, go_sem, s0, s1, s2, s3, s4]) rfl ⟨rfl, ?_⟩
    exact ((((B.out.drew.setCell (by simp) _).setCell (by simp) _).setCell (by simp) _).setCell (by simp) _).setCell (by simp) _
set_option maxRecDepth 20000 in
set_option maxHeartbeats 4000000 in
theorem c_l09Step (g off : Nat) (k i o : Int) (a b c : Option Addr) (n m s ca cb cc : Nat) (rl v : Bool) (hv : (vLay k i o n m && pEndB k o s rl) = v) (hn : n ≤ 9223372036854775807) (hm : m ≤ 9223372036854775807) (hs : s ≤ 9223372036854775807) (w : World)
    (q0 : w.cell? ⟨g, off, none⟩ = some (.int .i64 k)) (q1 : w.cell? ⟨g, off + 1, none⟩ = some (.int .i64 i)) (q2 : w.cell? ⟨g, off + 2, none⟩ = some (.int .i64 o))
    (q3 : w.cell? ⟨g, off + 3, none⟩ = some (.slice a n ca)) (q4 : w.cell? ⟨g, off + 4, none⟩ = some (.slice b m cb)) (q5 : w.cell? ⟨g, off + 5, none⟩ = some (.slice c s cc)) (q6 : w.cell? ⟨g, off + 6, none⟩ = some (.bool rl)) (hg : g < w.heap.size) :
    Calls Tryd.prog 19 #[.pointer (some ⟨g, off, none⟩)] w fun e w' => e = .returned (.bool v) ∧ Below w.heap.size w w' := by
  have HC := Lib.hid (c_l09Layer g off k i o a b n m ca cb w q0 q1 q2 q3 q4 hg)
  obtain ⟨u, hu⟩ : ∃ u, vLay k i o n m = u := ⟨_, rfl⟩
  have HU := Lib.hid hu
  rw [hu] at hv
  have HN := Lib.hid hn
  have HM := Lib.hid hm
  have Q0 := Lib.hid q0
  have Q2 := Lib.hid q2
  have Q5 := Lib.hid q5
  have Q6 := Lib.hid q6
  have HG := Lib.hid hg
  clear hu hn hm q0 q1 q2 q3 q4 q5 q6 hg
  unfold pEndB at hv
  go_enter Tryd.func19, Tryd.ntmps19
  go_wp2_with fail
  refine HC.out.mono ?_
  rintro e w1 ⟨rfl, bl⟩
  have al := (Below.refl w1.heap.size w1).alloc (Nat.le_refl _) (.cells #[.int .i64 k, .int .i64 i, .int .i64 o, .slice a n ca, .slice b m cb] 59)
  have K := Lib.hid (Blk.new w1 59 #[.int .i64 k, .int .i64 i, .int .i64 o, .slice a n ca, .slice b m cb])
  have B := Lib.hid (Below.next bl al)
  clear bl al
  go_wp2_with fail
  generalize w1.alloc (.cells #[.int .i64 k, .int .i64 i, .int .i64 o, .slice a n ca, .slice b m cb] 59) = w2 at K B ⊢
  obtain ⟨s0, s1, s2, s3, s4, sl⟩ := tb5 K.out
  refine (c_l03Layer _ 0 k i o a b n m ca cb u HU.out HN.out HM.out _ s0 s1 s2 s3 s4).mono ?_
  rintro e w3 ⟨rfl, d, rfl⟩
  have B3 := Lib.hid (below_drewN B.out d)
  have r0 := (B3.out.cell (p := ⟨g, off, none⟩) HG.out).trans Q0.out
  have r2 := (B3.out.cell (p := ⟨g, off + 2, none⟩) HG.out).trans Q2.out
  have r5 := (B3.out.cell (p := ⟨g, off + 5, none⟩) HG.out).trans Q5.out
  have r6 := (B3.out.cell (p := ⟨g, off + 6, none⟩) HG.out).trans Q6.out
  clear s0 s1 s2 s3 s4 sl
  generalize w2.drewN d = w4 at B3 r0 r2 r5 r6 ⊢
  cases u with
  | false =>
    have hv' : v = false := by rw [← hv]; rfl
    subst hv'
    clear hv
    go_wp2
    go_ret
    exact ⟨rfl, B3.out⟩
  | true =>
    rw [Bool.true_and] at hv
    by_cases hk : k = 0
    · subst hk
      have hk0 : ((0 : Int) != 0) = false := rfl
      by_cases hz : s = 0
      · have hv' : v = true := by rw [← hv]; cases rl <;> simp [hz]
        subst hv'
        have hz1 : ((s : Int) == 0) = true := by simp; omega
        clear hv hz
        go_wp2_with fail
        go_big_region
        all_goals
          go_wp2
          go_ret
          exact ⟨rfl, B3.out.drew⟩
      · have hz0 : ((s : Int) == 0) = false := by simp; omega
        have HV := Lib.hid hv
        clear hv
        cases hso : decide ((s : Int) = o) with
        | false =>
          have hv' : v = false := by rw [← HV.out]; cases rl <;> simp [hz, hso]
          subst hv'
          have hso' : ((s : Int) == o) = false := by simpa using hso
          clear hso HV
          go_wp2_with fail
          go_quiet (fail)
          go_wp2
          go_ret
          exact ⟨rfl, below_drewN B3.out _⟩
        | true =>
          have hso0 : (s : Int) = o := of_decide_eq_true hso
          have hv' : v = !rl := by rw [← HV.out]; cases rl <;> simp [hz, hso0]
          subst hv'
          have hso' : ((s : Int) == o) = true := by simpa using hso
          clear hso HV hso0 hz
          go_wp2_with fail
          go_quiet (fail)
          go_wp2
          go_ret
          exact ⟨rfl, below_drewN B3.out _⟩
    · have hk0 : (k != 0) = true := by simp [hk]
      by_cases hz : s = 0
      · have hv' : v = !rl := by rw [← hv]; cases rl <;> simp [hk, hz]
        subst hv'
        have hz1 : ((s : Int) == 0) = true := by simp; omega
        clear hv hz
        go_wp2
        go_ret
        exact ⟨rfl, B3.out⟩
      · have hz0 : ((s : Int) == 0) = false := by simp; omega
        have hv' : v = false := by rw [← hv]; cases rl <;> simp [hk, hz]
        subst hv'
        clear hv
        go_wp2
        go_ret
        exact ⟨rfl, B3.out⟩
end Go.Proofs.YtdngbfpfhkkmpaaDoor
