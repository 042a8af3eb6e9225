/-
  BatchSizes: what the model and the program answer. Conditions: the cells can be read.
-/
import Derived.Test.YtnkmgeiehhonkaaLdy
import Derived.Test.YtnkmgeiehhonkaaGrJ
namespace Go.Proofs.Ytnkmgeiehhonkaa
open Go.RowKit Go.Deep Go.WideShapes Go.ChangeShapes
set_option linter.unusedVariables false

def bzS (s : List Int) (b : Int) : Option (List Int) :=
  if b = (s.length : Int) then some (s ++ [1]) else if b + 1 = (s.length : Int) ∧ 0 < s.length then some (s.set (s.length - 1) (s.getD (s.length - 1) 0 + 1)) else none
def bzAt (ps : List AnsP) : Nat → Option (List Int)
  | 0 => some []
  | j + 1 => match bzAt ps j with
    | none => none
    | some s => match ps[j]? with
      | none => some s
      | some p => bzS s p.ba
def vBatchSizes (ps : List AnsP) : Bool × List Int := if ps.length ≤ 20 then (match bzAt ps ps.length with | some s => (true, s) | none => (false, [])) else (false, [])
theorem bzAt_next {ps : List AnsP} {j : Nat} {s : List Int} {p : AnsP} (h : bzAt ps j = some s) (hx : ps[j]? = some p) : bzAt ps (j + 1) = bzS s p.ba := by simp [bzAt, h, hx]
theorem bzAt_none {ps : List AnsP} {j : Nat} (h : bzAt ps j = none) : ∀ n, j ≤ n → bzAt ps n = none := by
  intro n
  induction n with
  | zero => intro hj; rw [show j = 0 by omega] at h; exact h
  | succ n ih =>
    intro hj
    by_cases e : j = n + 1
    · rw [← e]; exact h
    · simp [bzAt, ih (by omega)]
theorem vBz_many {ps : List AnsP} (h : 20 < ps.length) : vBatchSizes ps = (false, []) := if_neg (by omega)
theorem vBz_yes {ps : List AnsP} {s : List Int} (h : ps.length ≤ 20) (he : bzAt ps ps.length = some s) : vBatchSizes ps = (true, s) := by rw [vBatchSizes, if_pos h, he]
theorem vBz_no {ps : List AnsP} {j : Nat} {s : List Int} {p : AnsP} (h : bzAt ps j = some s) (hx : ps[j]? = some p) (hn : bzS s p.ba = none) : vBatchSizes ps = (false, []) := by
  unfold vBatchSizes
  split
  · rw [bzAt_none ((bzAt_next h hx).trans hn) ps.length (List.getElem?_eq_some_iff.1 hx).1]
  · rfl
/-- of j rows -/
def bzFit (s : List Int) (j : Nat) : Prop := s.length ≤ j ∧ ∀ x ∈ s, 0 ≤ x ∧ x ≤ j
theorem bzFit_push {s : List Int} {j : Nat} (h : bzFit s j) : bzFit (s ++ [1]) (j + 1) := by
  refine ⟨by simp; exact h.1, fun x hx => ?_⟩
  rcases List.mem_append.1 hx with hx | hx
  · have := h.2 x hx; omega
  · simp at hx; subst hx; omega
theorem bzFit_at {s : List Int} {j : Nat} (h : bzFit s j) (k : Nat) : 0 ≤ s.getD k 0 ∧ s.getD k 0 ≤ j := by
  unfold List.getD
  cases hk : s[k]? with
  | none => simp
  | some x => simpa using h.2 x (List.mem_of_getElem? hk)
theorem bzFit_set {s : List Int} {j : Nat} (h : bzFit s j) (k : Nat) : bzFit (s.set k (s.getD k 0 + 1)) (j + 1) := by
  refine ⟨by rw [List.length_set]; have := h.1; omega, fun x hx => ?_⟩
  rcases List.mem_or_eq_of_mem_set hx with hx | rfl
  · have := h.2 x hx; omega
  · have := bzFit_at h k; omega
theorem bz_len {ps : List AnsP} : ∀ j s, bzAt ps j = some s → bzFit s j := by
  intro j
  induction j with
  | zero => intro s h; simp only [bzAt, Option.some.injEq] at h; subst h; exact ⟨Nat.le_refl _, fun x hx => by cases hx⟩
  | succ j ih =>
    intro s h
    simp only [bzAt] at h
    split at h
    · cases h
    · rename_i s0 h0
      have hf := ih _ h0
      split at h
      · simp only [Option.some.injEq] at h; subst h; exact ⟨by have := hf.1; omega, fun x hx => by have := hf.2 x hx; omega⟩
      · unfold bzS at h
        split at h
        · simp only [Option.some.injEq] at h; subst h; exact bzFit_push hf
        · split at h
          · simp only [Option.some.injEq] at h; subst h; exact bzFit_set hf _
          · cases h
theorem vBatchSizes_len (ps : List AnsP) : (vBatchSizes ps).2.length ≤ 1048576 := by
  unfold vBatchSizes
  split
  · rename_i h
    split
    · rename_i s hs
      have := (bz_len _ _ hs).1
      dsimp only
      omega
    · simp
  · simp
theorem bz_wf {x : Int} {j : Nat} (h : 0 ≤ x ∧ x ≤ j) (hj : j ≤ 21) : (Lit.int .i64 x).wf = true := by
  simp [Lit.wf, IntKind.min, IntKind.max, IntKind.signed, IntKind.bits]
  omega
/-! a row of integers of the call's own -/
theorem bz_some {w : World} {B c : Nat} {a : Option Addr} {ys : List Int} (h : OwnI w B a c ys) (hp : 0 < ys.length) : ∃ g, a = some ⟨g, 0, none⟩ ∧ B ≤ g ∧ g < w.heap.size := by
  rcases h.1.2 with ⟨hv, h0⟩ | ⟨g, cc, cur, hv, hB, hg, _⟩
  · omega
  · simp only [Value.slice.injEq] at hv
    exact ⟨g, hv.1, hB, (Array.getElem?_eq_some_iff.1 hg).1⟩
theorem bz_set {w : World} {B g c k : Nat} {v : Int} {ys : List Int} (h : OwnI w B (some ⟨g, 0, none⟩) c ys) (hk : k < ys.length) (hv : (Lit.int .i64 v).wf = true) : OwnI (w.setCell ⟨g, k, none⟩ (.int .i64 v)) B (some ⟨g, 0, none⟩) c (ys.set k v) := by
  obtain ⟨o1, o2⟩ := h.1.stored k (.int .i64 v)
  refine ⟨by rw [List.length_set, List.map_set]; exact o1, fun y hy => ?_⟩
  rcases List.mem_or_eq_of_mem_set hy with hy | rfl
  · exact h.2 y hy
  · exact hv
theorem bz_cell {w : World} {B g c k : Nat} {ys : List Int} (h : OwnI w B (some ⟨g, 0, none⟩) c ys) (hk : k < ys.length) : w.cell? ⟨g, k, none⟩ = some (.int .i64 (ys.getD k 0)) ∧ w.frozen? ⟨g, k, none⟩ = false := by
  refine ⟨?_, h.1.frozenAt k⟩
  rw [h.1.cellAt k (by omega)]
  simp [List.getD, hk, toV]
theorem bz_push {w wr w' : World} {b a' : Option Addr} {cp cp' : Nat} {v : Int} {ys : List Int} (ho : OwnI wr w.heap.size b cp ys) (hl : Below w.heap.size w wr) (hv : (Lit.int .i64 v).wf = true)
    (hown : w'.ownsRow w.heap.size 2 1 (.slice a' (ys.length + 1) cp') (ys.length + 1) (ys.map toV ++ [.int .i64 v])) (hg : (wr.alloc (.cells #[.int .i64 v] 2)).grownBy w' (Value.ownBlock (.slice b ys.length cp))) :
    ∃ g, a' = some ⟨g, 0, none⟩ ∧ OwnI w' w.heap.size (some ⟨g, 0, none⟩) cp' (ys ++ [v]) ∧ w'.cell? ⟨g, ys.length, none⟩ = some (.int .i64 v) ∧ w'.frozen? ⟨g, ys.length, none⟩ = false ∧ Below w.heap.size w w' := by
  rw [ownBlock_slice] at hg
  have bw : Below wr.heap.size wr (wr.alloc (.cells #[.int .i64 v] 2)) := (Below.refl _ _).alloc (Nat.le_refl _) _
  have ho1 := ho.kept bw
  have hl2 : Below w.heap.size w w' := (hl.trans (bw.mono hl.size)).grown hg (Nat.le_trans hl.size bw.size) (fun g h => (ho1.lt g h).1)
  have hO : OwnI w' w.heap.size a' cp' (ys ++ [v]) := ⟨by simpa [toV] using hown, fun y hy => by
    rcases List.mem_append.1 hy with h | h
    · exact ho.2 y h
    · simp at h; subst h; exact hv⟩
  obtain ⟨g, rfl, _, _⟩ := bz_some hO (by simp)
  obtain ⟨h1, h2⟩ := bz_cell hO (k := ys.length) (by simp)
  exact ⟨g, rfl, hO, by rw [h1]; simp [List.getD], h2, hl2⟩
def BzRel (ps : List AnsP) (n : Nat) (w : World) (sv iv : Value) (wr : World) : Prop :=
  ∃ (j : Nat) (a : Option Addr) (c : Nat) (s : List Int), j ≤ n ∧ iv = .int .i64 j ∧ sv = .slice a s.length c ∧ bzAt ps j = some s ∧ OwnI wr w.heap.size a c s ∧ Below w.heap.size w wr
theorem retI_no {w w' : World} (h : Below w.heap.size w w') : RetI false [] w (.returned (.tuple #[.slice none 0 0, .bool false])) w' := ⟨none, 0, [], rfl, nil_ownI _ _, rfl, h⟩
set_option maxRecDepth 20000 in
set_option maxHeartbeats 4000000 in
theorem t_sBatchSizes (ps : List AnsP) (n : Nat) (g : Option Addr) (c : Nat) (y : List AnsA) (w : World) (hp : y.map AnsA.p = ps) (h : AnssAt w g n c y) :
    Calls Try.prog 21 #[.slice g n c] w (RetI (vBatchSizes ps).1 (vBatchSizes ps).2 w) := by
  have hln : y.length = n := h.1
  have hlp : ps.length = n := by rw [← hp, List.length_map]; exact hln
  have hmax : n ≤ 9223372036854775807 := by have h1 := h.2.1; have h2 := h.2.2.1; unfold maxLen at h2; omega
  have H := Lib.hid h
  have HP := Lib.hid hp
  have HL := Lib.hid hlp
  obtain ⟨i0, hi, hz0, hz1, hz2⟩ := info_parts info_j64
  have JI := Lib.hid hi
  have HZ0 := Lib.hid hz0
  have HZ1 := Lib.hid hz1
  have HZ2 := Lib.hid hz2
  clear hi hz0 hz1 hz2 h hp hln
  by_cases h20 : n ≤ 20
  case neg =>
    rw [vBz_many (by omega)]
    have h20' : (20 : Int) < (n : Int) := by omega
    clear hlp h20
    go_enter Try.func21, Try.ntmps21
    go_wp2
    go_ret2
    exact retI_no (Below.refl _ _)
  have h20' : (n : Int) ≤ 20 := by omega
  have HN := Lib.hid h20
  clear hlp h20
  go_enter Try.func21, Try.ntmps21
  go_wp2_with fail
  go_loopw [4, 5] (fun sv iv wr => BzRel ps n w sv iv wr) (fun _ iv _ => n - (intOf iv).toNat)
  case atStart => exact ⟨0, _, 0, [], Nat.zero_le _, rfl, rfl, rfl, ⟨World.ownsRow_made w #[] 0 (Nat.le_refl _) (by unfold maxLen; omega) rfl, fun _ h => by cases h⟩, (Below.refl _ _).alloc (Nat.le_refl _) _⟩
  case round =>
    obtain ⟨j, a, cc, s, hj, rfl, rfl, hat, ho, hb⟩ := hrel
    have HAT := Lib.hid hat
    have HO := Lib.hid ho
    have HB := Lib.hid hb
    have hfit := bz_len _ _ hat
    have HF := Lib.hid hfit
    have hs0 : (0 : Int) ≤ (s.length : Int) := by omega
    have hs1 : (s.length : Int) ≤ 20 := by have := hfit.1; have := HN.out; omega
    clear hat ho hb hfit
    by_cases hlt : j < n
    · obtain ⟨b, off, tk, ba, ro, a0, c0, rfl, hbk, hx, q0, q1, q2, f0⟩ := H.out.one hlt
      have e1 := anss_map hx
      rw [HP.out] at e1
      have E1 := Lib.hid e1
      have hlt' : (j : Int) < (n : Int) := by omega
      have hj0 : (0 : Int) ≤ (j : Int) := by omega
      have Q := Lib.hid q1
      have HBK := Lib.hid hbk
      have c1 := (HB.out.cell (p := ⟨b, off + j * 3 + 1, none⟩) hbk).trans q1
      clear f0 hx e1 q0 q1 q2 hbk
      by_cases hA : ba = (s.length : Int)
      · subst hA
        have HS := Lib.hid (show bzS s (s.length : Int) = some (s ++ [1]) by simp [bzS])
        have HR := Lib.hid (show (decide (max 0 ((s.length : Int) - 1) ≤ (s.length : Int)) && decide ((s.length : Int) ≤ (s.length : Int))) = true by simp; omega)
        have A1 := Lib.hid (show s.length + 1 ≤ maxLen by unfold maxLen; omega)
        have A2 := Lib.hid (show (s.length + 1) * 8 ≤ 140737488355328 by omega)
        go_wp2_with fail
        go_quiet (first | (go_at_call 95; exact Calls.quiet_of_same ((c_maxL 0 ((s.length : Int) - 1) _).mono fun _ _ h => ⟨h.1, h.2.symm⟩)) | (go_at_call 94; exact Calls.quiet_of_same ((c_l00In _ _ _ true HR.out _).mono fun _ _ h => ⟨h.1, h.2.symm⟩)))
        rename_i nq
        have B4 := Lib.hid (below_drewN HB.out nq)
        have O4 := Lib.hid (HO.out.kept (below_drewN (Below.refl _ _) nq))
        clear c1
        generalize wr.drewN nq = w4 at B4 O4 ⊢
        have c1 := (B4.out.cell (p := ⟨b, off + j * 3 + 1, none⟩) HBK.out).trans Q.out
        have A3 := Lib.hid B4.out.size
        go_wp2_with (at_builtin; refine wpList_append_any _ rfl (.tmp 37) (.tmp 38) 30 rfl w.heap.size 2 i0 (.int .i64 0) 1 8 Try.underlying30 JI.out HZ0.out HZ1.out HZ2.out rfl Nat.one_pos (.slice a s.length cc) s.length (s.map toV) rfl (growJ_own O4.out) (w4.heap.size + 1) (some ⟨w4.heap.size, 0, none⟩) 1 1 [.int .i64 0] rfl growJ_reads (one_i64 _) A1.out A2.out (growJ_base A3.out) ?_; intro v' w' hown hgr hat; obtain ⟨a', c', rfl⟩ := ownsRow_slice hown; obtain ⟨g', rfl, hO', hc', hf', hl'⟩ := bz_push O4.out B4.out (by decide) hown hgr; have O5 := Lib.hid hO'; have B5 := Lib.hid hl'; have c2 := (hl'.cell (p := ⟨b, off + j * 3 + 1, none⟩) HBK.out).trans Q.out; clear hown hgr hat hO' hl' c1)
        go_roundw
        case rel =>
          have hg := (O5.out.lt _ rfl).1
          have o := bz_set (k := s.length) (v := 1) O5.out (by simp) (by decide)
          have e : (s ++ [0]).set s.length 1 = s ++ [(1 : Int)] := by rw [List.set_append_right _ _ (Nat.le_refl _)]; simp
          rw [e] at o
          exact ⟨j + 1, _, _, s ++ [1], by omega, by go_num, by simp, (bzAt_next HAT.out E1.out).trans HS.out, o, B5.out.setCell (p := ⟨g', s.length, none⟩) hg _⟩
        case measure => simp [intOf]; omega
      · by_cases hC : ba + 1 = (s.length : Int) ∧ 0 < s.length
        · obtain ⟨k, hk⟩ : ∃ k, s.length = k + 1 := ⟨s.length - 1, by omega⟩
          obtain rfl : ba = (k : Int) := by omega
          have HS := Lib.hid (show bzS s (k : Int) = some (s.set k (s.getD k 0 + 1)) by
            unfold bzS
            rw [if_neg hA, if_pos hC, hk]
            rfl)
          have HR := Lib.hid (show (decide (max 0 ((s.length : Int) - 1) ≤ (k : Int)) && decide ((k : Int) ≤ (s.length : Int))) = true by simp; omega)
          obtain ⟨g', rfl, hg1, hg2⟩ := bz_some HO.out (by omega)
          have hk1 : (k : Int) < (s.length : Int) := by omega
          have hk0 : (0 : Int) ≤ (k : Int) := by omega
          have hne : ¬ (k : Int) = (s.length : Int) := hA
          obtain ⟨v1, v2⟩ := bzFit_at HF.out k
          have HWF := Lib.hid (bz_wf (x := s.getD k 0 + 1) (j := j + 1) (by omega) (by have := HN.out; omega))
          have hvb : s.getD k 0 ≤ 20 := by have := HN.out; omega
          clear hA hC hk
          obtain ⟨v, hv⟩ : ∃ v, s.getD k 0 = v := ⟨_, rfl⟩
          rw [hv] at v1 v2 HWF hvb
          have HV := Lib.hid hv
          clear hv v2
          go_wp2_with fail
          go_quiet (first | (go_at_call 95; exact Calls.quiet_of_same ((c_maxL 0 ((s.length : Int) - 1) _).mono fun _ _ h => ⟨h.1, h.2.symm⟩)) | (go_at_call 94; exact Calls.quiet_of_same ((c_l00In _ _ _ true HR.out _).mono fun _ _ h => ⟨h.1, h.2.symm⟩)))
          rename_i nq
          have B4 := Lib.hid (below_drewN HB.out nq)
          have O4 := Lib.hid (HO.out.kept (below_drewN (Below.refl _ _) nq))
          clear c1
          generalize wr.drewN nq = w4 at B4 O4 ⊢
          have c1 := (B4.out.cell (p := ⟨b, off + j * 3 + 1, none⟩) HBK.out).trans Q.out
          obtain ⟨c2, z2⟩ := bz_cell (k := k) O4.out (by omega)
          rw [HV.out] at c2
          go_wp2_with fail
          go_roundw
          case rel =>
            have o := bz_set (k := k) O4.out (by omega) HWF.out
            exact ⟨j + 1, _, _, _, by omega, by go_num, by rw [List.length_set], (bzAt_next HAT.out E1.out).trans (HS.out.trans (by rw [HV.out])), o, B4.out.setCell (p := ⟨g', k, none⟩) hg1 _⟩
          case measure => simp [intOf]; omega
        · have HS := Lib.hid (show bzS s ba = none by unfold bzS; rw [if_neg hA, if_neg hC])
          have HR := Lib.hid (show (decide (max 0 ((s.length : Int) - 1) ≤ ba) && decide (ba ≤ (s.length : Int))) = false by
            rw [Bool.and_eq_false_iff]
            by_cases h1 : ba ≤ (s.length : Int)
            · exact .inl (by simp only [decide_eq_false_iff_not]; omega)
            · exact .inr (by simpa using h1))
          clear hA hC
          go_wp2_with fail
          go_quiet (first | (go_at_call 95; exact Calls.quiet_of_same ((c_maxL 0 ((s.length : Int) - 1) _).mono fun _ _ h => ⟨h.1, h.2.symm⟩)) | (go_at_call 94; exact Calls.quiet_of_same ((c_l00In _ _ _ false HR.out _).mono fun _ _ h => ⟨h.1, h.2.symm⟩)))
          rename_i nq
          have B4 := Lib.hid (below_drewN HB.out nq)
          go_wp2_with fail
          go_ret2
          rw [vBz_no HAT.out E1.out HS.out]
          exact retI_no B4.out
    · obtain rfl : j = n := by omega
      go_wp2_with fail
      go_ret2
      rw [vBz_yes (by rw [HL.out]; exact HN.out) (by rw [HL.out]; exact HAT.out)]
      exact ⟨a, cc, s, rfl, HO.out, rfl, HB.out⟩
set_option maxRecDepth 20000 in
set_option maxHeartbeats 4000000 in
theorem t_iBatchSizes (ps : List AnsP) (n : Nat) (g : Option Addr) (c : Nat) (y : List AnsA) (w : World) (hp : y.map AnsA.p = ps) (h : AnssAt w g n c y) :
    Calls Try.prog 23 #[.slice g n c] w (RetI (vBatchSizes ps).1 (vBatchSizes ps).2 w) := by
  have hln : y.length = n := h.1
  have hlp : ps.length = n := by rw [← hp, List.length_map]; exact hln
  have hmax : n ≤ 9223372036854775807 := by have h1 := h.2.1; have h2 := h.2.2.1; unfold maxLen at h2; omega
  have H := Lib.hid h
  have HP := Lib.hid hp
  have HL := Lib.hid hlp
  obtain ⟨i0, hi, hz0, hz1, hz2⟩ := info_parts info_j64
  have JI := Lib.hid hi
  have HZ0 := Lib.hid hz0
  have HZ1 := Lib.hid hz1
  have HZ2 := Lib.hid hz2
  clear hi hz0 hz1 hz2 h hp hln
  by_cases h20 : n ≤ 20
  case neg =>
    rw [vBz_many (by omega)]
    have h20' : (20 : Int) < (n : Int) := by omega
    clear hlp h20
    go_enter Try.func23, Try.ntmps23
    go_wp2
    go_ret2
    exact retI_no (Below.refl _ _)
  have h20' : (n : Int) ≤ 20 := by omega
  have HN := Lib.hid h20
  clear hlp h20
  go_enter Try.func23, Try.ntmps23
  go_wp2_with fail
  go_loopw [4, 13] (fun sv iv wr => BzRel ps n w sv iv wr) (fun _ iv _ => n - (intOf iv).toNat)
  case atStart => exact ⟨0, none, 0, [], Nat.zero_le _, rfl, rfl, rfl, nil_ownI _ _, Below.refl _ _⟩
  case round =>
    obtain ⟨j, a, cc, s, hj, rfl, rfl, hat, ho, hb⟩ := hrel
    have HAT := Lib.hid hat
    have HO0 := Lib.hid ho
    have HB0 := Lib.hid hb
    have hfit := bz_len _ _ hat
    have HF := Lib.hid hfit
    have hs0 : (0 : Int) ≤ (s.length : Int) := by omega
    have hs1 : (s.length : Int) ≤ 20 := by have := hfit.1; have := HN.out; omega
    clear hat ho hb hfit
    by_cases hlt : j < n
    · obtain ⟨b, off, tk, ba, ro, a0, c0, rfl, hbk, hx, q0, q1, q2, f0⟩ := (H.out.kept HB0.out).one hlt
      have e1 := anss_map hx
      rw [HP.out] at e1
      have E1 := Lib.hid e1
      have hlt' : (j : Int) < (n : Int) := by omega
      have hj0 : (0 : Int) ≤ (j : Int) := by omega
      have bal := (Below.refl wr.heap.size wr).alloc (Nat.le_refl _) (.cells #[.int .i64 tk, .int .i64 ba, .slice a0 ro.length c0] 138)
      have HB := Lib.hid (Below.next HB0.out bal)
      have HO := Lib.hid (HO0.out.kept bal)
      have K := Lib.hid (Blk.new wr 138 #[.int .i64 tk, .int .i64 ba, .slice a0 ro.length c0])
      have A3 := Lib.hid HB.out.size
      clear f0 hx e1 bal
      by_cases hA : ba = (s.length : Int)
      · subst hA
        have HS := Lib.hid (show bzS s (s.length : Int) = some (s ++ [1]) by simp [bzS])
        have A1 := Lib.hid (show s.length + 1 ≤ maxLen by unfold maxLen; omega)
        have A2 := Lib.hid (show (s.length + 1) * 8 ≤ 140737488355328 by omega)
        go_upto_region 7 with fail
        generalize wr.alloc (.cells #[.int .i64 tk, .int .i64 (s.length : Int), .slice a0 ro.length c0] 138) = w4 at HB HO K A3 ⊢
        obtain ⟨p0, p1, p2, pl⟩ := tb3 K.out
        go_wp2_with (at_builtin; refine wpList_append_any _ rfl (.tmp 24) (.tmp 25) 30 rfl w.heap.size 2 i0 (.int .i64 0) 1 8 Try.underlying30 JI.out HZ0.out HZ1.out HZ2.out rfl Nat.one_pos (.slice a s.length cc) s.length (s.map toV) rfl (growJ_own HO.out) (w4.heap.size + 1) (some ⟨w4.heap.size, 0, none⟩) 1 1 [.int .i64 1] rfl growJ_reads (one_i64 _) A1.out A2.out (growJ_base A3.out) ?_; intro v' w' hown hgr hat; obtain ⟨a', c', rfl⟩ := ownsRow_slice hown; obtain ⟨g', rfl, hO', hc', hf', hl'⟩ := bz_push HO.out HB.out (by decide) hown hgr; have O5 := Lib.hid hO'; have B5 := Lib.hid hl'; clear hown hgr hat hO' hl' hc' hf')
        go_roundw
        case rel => exact ⟨j + 1, _, _, s ++ [1], by omega, by go_num, by simp, (bzAt_next HAT.out E1.out).trans HS.out, O5.out, B5.out⟩
        case measure => simp [intOf]; omega
      · by_cases hC : ba + 1 = (s.length : Int) ∧ 0 < s.length
        · obtain ⟨k, hk⟩ : ∃ k, s.length = k + 1 := ⟨s.length - 1, by omega⟩
          obtain rfl : ba = (k : Int) := by omega
          have HS := Lib.hid (show bzS s (k : Int) = some (s.set k (s.getD k 0 + 1)) by
            unfold bzS
            rw [if_neg hA, if_pos hC, hk]
            rfl)
          obtain ⟨g', rfl, hg1, hg2⟩ := bz_some HO.out (by omega)
          have hk0 : (0 : Int) ≤ (k : Int) := by omega
          have hne : ¬ (k : Int) = (s.length : Int) := hA
          have heq : (s.length : Int) - 1 = (k : Int) := by omega
          have HEQ := Lib.hid heq
          have hpos : (0 : Int) < (s.length : Int) := by omega
          have hk1 : (k : Int) < (s.length : Int) := by omega
          obtain ⟨v1, v2⟩ := bzFit_at HF.out k
          have HWF := Lib.hid (bz_wf (x := s.getD k 0 + 1) (j := j + 1) (by omega) (by have := HN.out; omega))
          have hvb : s.getD k 0 ≤ 20 := by have := HN.out; omega
          have hks : k < s.length := by omega
          have HKS := Lib.hid hks
          obtain ⟨c2, z2⟩ := bz_cell (k := k) HO.out hks
          clear hA hC hk hks
          obtain ⟨v, hv⟩ : ∃ v, s.getD k 0 = v := ⟨_, rfl⟩
          rw [hv] at v1 v2 HWF hvb c2
          have HV := Lib.hid hv
          clear hv v2
          go_wp2_with fail
          go_roundw
          case rel =>
            have o := bz_set (k := k) HO.out HKS.out HWF.out
            exact ⟨j + 1, _, _, _, by omega, by go_num, by rw [List.length_set], (bzAt_next HAT.out E1.out).trans (HS.out.trans (by rw [HV.out])), o, HB.out.setCell (p := ⟨g', k, none⟩) hg1 _⟩
          case measure => simp [intOf]; omega
        · have HS := Lib.hid (show bzS s ba = none by unfold bzS; rw [if_neg hA, if_neg hC])
          by_cases h1 : ba = (s.length : Int) - 1
          · subst h1
            have h0 : ¬ (0 : Int) < (s.length : Int) := by omega
            have h00 : (s.length : Int) ≤ 0 := by omega
            clear hC
            go_wp2_with fail
            go_ret2
            rw [vBz_no HAT.out E1.out HS.out]
            exact retI_no HB.out
          · clear hC
            go_wp2_with fail
            go_ret2
            rw [vBz_no HAT.out E1.out HS.out]
            exact retI_no HB.out
    · obtain rfl : j = n := by omega
      go_wp2_with fail
      go_ret2
      rw [vBz_yes (by rw [HL.out]; exact HN.out) (by rw [HL.out]; exact HAT.out)]
      exact ⟨a, cc, s, rfl, HO0.out, rfl, HB0.out⟩
end Go.Proofs.Ytnkmgeiehhonkaa
