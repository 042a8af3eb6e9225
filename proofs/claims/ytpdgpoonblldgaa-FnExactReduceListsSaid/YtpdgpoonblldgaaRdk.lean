/-
  ReduceLists: the model's sums in a line and in a ring. Conditions: the numbers can be read.
-/
import Derived.Test.YtpdgpoonblldgaaRdj
namespace Go.Proofs.Ytpdgpoonblldgaa
open Go.RowKit Go.Deep Go.WideShapes Go.ChangeShapes
set_option linter.unusedVariables false
set_option linter.unusedSimpArgs false

def rawL (ls : List FlA) (p : Nat) : List Nat := ls.map fun x => x.z.getD p 0
def rotL (Q : Nat) (l : List Nat) : List Nat := l.drop Q ++ l.take Q
theorem rot_raw (Q : Nat) (ls : List FlA) (p : Nat) : (rotL Q (rawL ls p)).map (canon .f32) = rotL Q (atV (ls.map FlA.z) p) := by
  have e : (rawL ls p).map (canon .f32) = atV (ls.map FlA.z) p := by unfold rawL atV; rw [List.map_map, List.map_map]; rfl
  unfold rotL
  rw [List.map_append, List.map_drop, List.map_take, e]
theorem rot_len (Q : Nat) (l : List Nat) (h : Q ≤ l.length) : (rotL Q l).length = l.length := by
  unfold rotL
  rw [List.length_append, List.length_drop, List.length_take]
  omega
theorem rot_at {l : List Nat} {Q k : Nat} (hQ : Q < l.length) (hk : k < l.length) : (rotL Q l).getD k 0 = l.getD ((Q + k) % l.length) 0 := by
  unfold rotL List.getD
  by_cases h : k < l.length - Q
  · rw [List.getElem?_append_left (by rw [List.length_drop]; exact h), List.getElem?_drop, Nat.mod_eq_of_lt (by omega)]
  · rw [List.getElem?_append_right (by rw [List.length_drop]; omega), List.length_drop, List.getElem?_take, if_pos (by omega)]
    have e : (Q + k) % l.length = k - (l.length - Q) := by
      rw [show Q + k = (k - (l.length - Q)) + l.length by omega, Nat.add_mod_right, Nat.mod_eq_of_lt (by omega)]
    rw [e]
theorem red_at {w : World} {b off n cap L p : Nat} {ls : List FlA} (h : SSAt w (some ⟨b, off, none⟩) n cap ls) (hall : ∀ x ∈ ls, x.z.length = L) (hp : p < L) (i : Nat) (hi : i < n) (wr : World) (hb : Below w.heap.size w wr) :
    ∃ ab ao ac, wr.cell? ⟨b, off + i, none⟩ = some (.slice (some ⟨ab, ao, none⟩) L ac) ∧ wr.cell? ⟨ab, ao + p, none⟩ = some (.float .f32 ((rawL ls p).getD i 0)) ∧ (rawL ls p).getD i 0 < 2 ^ 32 := by
  obtain ⟨b', off', z, a, c, e, hbk, hx, q, hf⟩ := (h.kept hb).one hi
  cases e
  have hz := hall _ (List.mem_of_getElem? hx)
  simp only at hz
  obtain ⟨ab, ao, rfl⟩ := floats_some hf (by omega)
  have e2 : (rawL ls p).getD i 0 = z.getD p 0 := by simp [rawL, List.getD, List.getElem?_map, hx]
  refine ⟨ab, ao, c, by rw [q, hz], ?_, ?_⟩
  · rw [e2]
    rcases hf.2.2.2.2 with h' | ⟨b2, o2, e, _, hc⟩
    · omega
    · cases e; exact hc p (by omega)
  · rw [e2]
    refine hf.2.2.2.1 _ ?_
    unfold List.getD
    rw [List.getElem?_eq_getElem (by omega)]
    exact List.getElem_mem _
def RotRel (zs : List Nat) (w : World) (s i : Value) (wr : World) : Prop :=
  ∃ k r m : Nat, k + 1 ≤ zs.length ∧ i = .int .i64 ((k : Int) + 1) ∧ s = .float .f32 r ∧ canon .f32 r = lineV ((zs.take (k + 1)).map (canon .f32)) ∧ r < 2 ^ 32 ∧ wr = w.drewN m
set_option maxRecDepth 20000 in
set_option maxHeartbeats 4000000 in
theorem c_l10Line (g : Option Addr) (n cap : Nat) (ls : List FlA) (w : World) (h : SSAt w g n cap ls) (hok : okL (ls.map FlA.z) = true) :
    Calls Try.prog 74 #[.int .i64 0, .slice g n cap] w (RetLs ((List.range ((ls.map FlA.z).getD 0 []).length).map (fun p => lineV (rotL 0 (atV (ls.map FlA.z) p)))) w) := by
  obtain ⟨f1, f2, f3, f4⟩ := okL_facts hok
  rw [List.length_map, h.1] at f1 f2
  obtain ⟨L, hL⟩ : ∃ L, ((ls.map FlA.z).getD 0 []).length = L := ⟨_, rfl⟩
  rw [hL] at f3 f4 ⊢
  have HALL := Lib.hid (show ∀ x ∈ ls, x.z.length = L from fun x hx => f4 x.z (List.mem_map.2 ⟨x, hx, rfl⟩))
  obtain ⟨b, off, z0, a0, c0, rfl, hbk, hx, q0, hf⟩ := h.one (show 0 < n by omega)
  have hz0 : z0.length = L := HALL.out _ (List.mem_of_getElem? hx)
  rw [Nat.add_zero, hz0] at q0
  have HS := Lib.hid h
  have HBK := Lib.hid hbk
  have HQ := Lib.hid q0
  have i1 : (0 : Int) < (n : Int) := by omega
  have i2 : (n : Int) ≤ 8 := by omega
  have i3 : (L : Int) ≤ 512 := by omega
  have HN := Lib.hid (And.intro f1 f2)
  have HL5 := Lib.hid f3
  obtain ⟨i0, hi, hz0', hz1, hz2⟩ := info_parts info_f32
  have HI := Lib.hid hi
  have HZ0 := Lib.hid hz0'
  have HZ1 := Lib.hid hz1
  have HZ2 := Lib.hid hz2
  obtain ⟨FV, hFV⟩ : ∃ FV : Nat → Nat, (fun p => lineV (rotL 0 (atV (ls.map FlA.z) p))) = FV := ⟨_, rfl⟩
  have HFV := Lib.hid (fun (p : Nat) => show lineV (rotL 0 (atV (ls.map FlA.z) p)) = FV p from congrFun hFV p)
  rw [hFV]
  clear h hok f1 f2 f3 f4 hL hbk hx q0 hf hz0 hi hz0' hz1 hz2 hFV
  go_enter Try.func74, Try.ntmps74
  go_wp2_with fail
  go_loopw [8, 9] (fun s i wr => GrowRel FV L w.heap.size w s i wr) (fun _ i _ => L - (intOf i).toNat)
  case atStart => exact grow_first (Nat.le_refl _) rfl (Below.refl _ _) (Nat.le_refl _)
  case round =>
    obtain ⟨p, q, cp, xs, hk, rfl, rfl, hy, ho, he, hl⟩ := hrel
    have HY := Lib.hid hy
    have HO := Lib.hid ho
    have HE := Lib.hid he
    have HL := Lib.hid hl
    have hk0 : (0 : Int) ≤ (p : Int) := by omega
    have q0 := (HL.out.cell (p := ⟨b, off, none⟩) HBK.out).trans HQ.out
    clear hy ho he hl
    by_cases hlt : p < L
    · have hlt' : (p : Int) < (L : Int) := by omega
      have hn0 : 0 < n := by omega
      have hQn : 0 < n := hn0
      have HRAW := Lib.hid (red_at HS.out HALL.out hlt)
      have hrl : (rawL ls p).length = n := by unfold rawL; rw [List.length_map]; exact HS.out.1
      have HRL := Lib.hid (show (rotL 0 (rawL ls p)).length = n by rw [rot_len _ _ (by omega), hrl])
      have HV := Lib.hid (show lineV ((rotL 0 (rawL ls p)).map (canon .f32)) = FV p by rw [rot_raw, HFV.out])
      have HROT := Lib.hid (fun k (hk : k < n) => show (rotL 0 (rawL ls p)).getD k 0 = (rawL ls p).getD ((0 + k) % n) 0 by rw [rot_at (by omega) (by omega), hrl])
      obtain ⟨ab, ao, ac, c1, c2, c3⟩ := HRAW.out 0 hQn wr HL.out
      rw [Nat.add_zero] at c1; cases q0.symm.trans c1; clear c1
      obtain ⟨x0, hx0⟩ : ∃ x, (rawL ls p).getD 0 0 = x := ⟨_, rfl⟩
      rw [hx0] at c2 c3
      have HST := Lib.hid (show RotRel (rotL 0 (rawL ls p)) wr (.float .f32 x0) (.int .i64 1) wr from ⟨0, x0, 0, by rw [HRL.out]; omega, rfl, rfl, by
        have e0 := HROT.out 0 hn0
        rw [Nat.add_zero, Nat.mod_eq_of_lt hQn, hx0] at e0
        cases hzz : rotL 0 (rawL ls p) with
        | nil => have := HRL.out; rw [hzz] at this; simp at this; omega
        | cons y t => rw [hzz] at e0; simp at e0; subst e0; rfl, c3, (World.drewN_zero wr).symm⟩)
      clear hrl hx0 c3
      go_wp2_with fail
      clear  c2  q0
      go_loopw [11, 12] (fun s i wq => RotRel (rotL 0 (rawL ls p)) wr s i wq) (fun _ i _ => n - (intOf i).toNat)
      case atStart => exact HST.out
      case round =>
        obtain ⟨k, r, m, hkk, rfl, rfl, hr, hr2, rfl⟩ := hrel
        rw [HRL.out] at hkk
        have HR := Lib.hid hr
        have HR2 := Lib.hid hr2
        have hk1 : (0 : Int) ≤ (k : Int) := by omega
        have hk2 : (k : Int) ≤ 8 := by omega
        clear hr hr2
        by_cases hlk : k + 1 < n
        · have hlk' : (k : Int) + 1 < (n : Int) := by omega
          obtain ⟨J, hJ⟩ : ∃ J, (0 + (k + 1)) % n = J := ⟨_, rfl⟩
          have hJn : J < n := by rw [← hJ]; exact Nat.mod_lt _ hn0
          have r2 : (((k : Int) + 1)).tmod (n : Int) = (J : Int) := by rw [← hJ, Int.tmod_eq_emod_of_nonneg (by omega)]; rw [Nat.zero_add]; rfl
          have r3 : (n : Int) ≠ 0 := by omega
          have j3 : (J : Int) < (n : Int) := by omega
          have j4 : (0 : Int) ≤ (J : Int) := by omega
          obtain ⟨ab, ao, ac, c1, c2, c3⟩ := HRAW.out J hJn wr HL.out
          have HNX := Lib.hid (fun W => line_next (w := W) (show k + 1 < (rotL 0 (rawL ls p)).length by rw [HRL.out]; exact hlk) HR.out)
          rw [HROT.out (k + 1) hlk, hJ] at HNX
          obtain ⟨x, hx⟩ : ∃ x, (rawL ls p).getD J 0 = x := ⟨_, rfl⟩
          rw [hx] at c2 HNX
          clear hx hJ c3
          go_wp2_with fail
          go_roundw
          case rel => exact ⟨k + 1, _, _, by rw [HRL.out]; omega, by go_num, rfl, HNX.out _, fval_lt .add .f32 _ _ _, rfl⟩
          case measure => simp [intOf]; omega
        · have hkn : k + 1 = n := by omega
          have hge : ¬ ((k : Int) + 1 < (n : Int)) := by omega
          have HC := Lib.hid (show canon .f32 r = FV p by rw [HR.out, List.take_of_length_le (by rw [HRL.out, hkn]; exact Nat.le_refl _), HV.out])
          have A1 := Lib.hid (show xs.length + 1 ≤ maxLen by have := HY.out; have := HL5.out; unfold maxLen; omega)
          have A2 := Lib.hid (show (xs.length + 1) * 4 ≤ 140737488355328 by have := HY.out; have := HL5.out; omega)
          have A3 := Lib.hid HL.out.size
          clear hkn
          go_wp2_with (at_builtin; refine wpList_append_any _ rfl (.tmp 98) (.tmp 100) 25 rfl w.heap.size 67 i0 (.float .f32 0) 1 4 Try.underlying25 HI.out HZ0.out HZ1.out HZ2.out rfl Nat.one_pos (.slice q xs.length cp) xs.length (xs.map (Value.float .f32)) rfl (grow_own HO.out) (wr.heap.size + 1) (some ⟨wr.heap.size, 0, none⟩) 1 1 [.float .f32 r] rfl grow_reads (one_f32 _) A1.out A2.out (grow_base A3.out) ?_; intro v' w' hown hgr hat; obtain ⟨a', c', rfl⟩ := ownsRow_slice hown; have hmade := grow_next (n := L) hlt HO.out (Nat.le_refl _) HL.out HE.out HY.out HR2.out HC.out hown hgr; have HMD := Lib.hid hmade; clear hown hgr hat hmade)
          go_roundw
          case rel => exact HMD.out
          case measure => simp [intOf]; omega
    · obtain rfl : p = L := by omega
      go_wp2_with fail
      go_ret
      exact ⟨q, cp, xs, rfl, HO.out, HE.out, HL.out⟩
set_option maxRecDepth 20000 in
set_option maxHeartbeats 4000000 in
theorem c_l10Ring (g : Option Addr) (n cap : Nat) (ls : List FlA) (w : World) (h : SSAt w g n cap ls) (hok : okL (ls.map FlA.z) = true) :
    Calls Try.prog 74 #[.int .i64 2, .slice g n cap] w (RetLs ((List.range ((ls.map FlA.z).getD 0 []).length).map (fun p => lineV (rotL (p % n) (atV (ls.map FlA.z) p)))) w) := by
  obtain ⟨f1, f2, f3, f4⟩ := okL_facts hok
  rw [List.length_map, h.1] at f1 f2
  obtain ⟨L, hL⟩ : ∃ L, ((ls.map FlA.z).getD 0 []).length = L := ⟨_, rfl⟩
  rw [hL] at f3 f4 ⊢
  have HALL := Lib.hid (show ∀ x ∈ ls, x.z.length = L from fun x hx => f4 x.z (List.mem_map.2 ⟨x, hx, rfl⟩))
  obtain ⟨b, off, z0, a0, c0, rfl, hbk, hx, q0, hf⟩ := h.one (show 0 < n by omega)
  have hz0 : z0.length = L := HALL.out _ (List.mem_of_getElem? hx)
  rw [Nat.add_zero, hz0] at q0
  have HS := Lib.hid h
  have HBK := Lib.hid hbk
  have HQ := Lib.hid q0
  have i1 : (0 : Int) < (n : Int) := by omega
  have i2 : (n : Int) ≤ 8 := by omega
  have i3 : (L : Int) ≤ 512 := by omega
  have HN := Lib.hid (And.intro f1 f2)
  have HL5 := Lib.hid f3
  obtain ⟨i0, hi, hz0', hz1, hz2⟩ := info_parts info_f32
  have HI := Lib.hid hi
  have HZ0 := Lib.hid hz0'
  have HZ1 := Lib.hid hz1
  have HZ2 := Lib.hid hz2
  obtain ⟨FV, hFV⟩ : ∃ FV : Nat → Nat, (fun p => lineV (rotL (p % n) (atV (ls.map FlA.z) p))) = FV := ⟨_, rfl⟩
  have HFV := Lib.hid (fun (p : Nat) => show lineV (rotL (p % n) (atV (ls.map FlA.z) p)) = FV p from congrFun hFV p)
  rw [hFV]
  clear h hok f1 f2 f3 f4 hL hbk hx q0 hf hz0 hi hz0' hz1 hz2 hFV
  go_enter Try.func74, Try.ntmps74
  go_wp2_with fail
  go_loopw [8, 9] (fun s i wr => GrowRel FV L w.heap.size w s i wr) (fun _ i _ => L - (intOf i).toNat)
  case atStart => exact grow_first (Nat.le_refl _) rfl (Below.refl _ _) (Nat.le_refl _)
  case round =>
    obtain ⟨p, q, cp, xs, hk, rfl, rfl, hy, ho, he, hl⟩ := hrel
    have HY := Lib.hid hy
    have HO := Lib.hid ho
    have HE := Lib.hid he
    have HL := Lib.hid hl
    have hk0 : (0 : Int) ≤ (p : Int) := by omega
    have q0 := (HL.out.cell (p := ⟨b, off, none⟩) HBK.out).trans HQ.out
    clear hy ho he hl
    by_cases hlt : p < L
    · have hlt' : (p : Int) < (L : Int) := by omega
      have hn0 : 0 < n := by omega
      obtain ⟨Q, hQ⟩ : ∃ Q, p % n = Q := ⟨_, rfl⟩
      have hQn : Q < n := by rw [← hQ]; exact Nat.mod_lt _ hn0
      have r1 : (p : Int).tmod (n : Int) = (Q : Int) := by rw [← hQ, Int.tmod_eq_emod_of_nonneg (by omega)]; rfl
      have j1 : (Q : Int) < (n : Int) := by omega
      have j2 : (0 : Int) ≤ (Q : Int) := by omega
      have r0 : (n : Int) ≠ 0 := by omega
      have HRAW := Lib.hid (red_at HS.out HALL.out hlt)
      have hrl : (rawL ls p).length = n := by unfold rawL; rw [List.length_map]; exact HS.out.1
      have HRL := Lib.hid (show (rotL Q (rawL ls p)).length = n by rw [rot_len _ _ (by omega), hrl])
      have HV := Lib.hid (show lineV ((rotL Q (rawL ls p)).map (canon .f32)) = FV p by rw [rot_raw, ← hQ, HFV.out])
      have HROT := Lib.hid (fun k (hk : k < n) => show (rotL Q (rawL ls p)).getD k 0 = (rawL ls p).getD ((Q + k) % n) 0 by rw [rot_at (by omega) (by omega), hrl])
      obtain ⟨ab, ao, ac, c1, c2, c3⟩ := HRAW.out Q hQn wr HL.out
      
      obtain ⟨x0, hx0⟩ : ∃ x, (rawL ls p).getD Q 0 = x := ⟨_, rfl⟩
      rw [hx0] at c2 c3
      have HST := Lib.hid (show RotRel (rotL Q (rawL ls p)) wr (.float .f32 x0) (.int .i64 1) wr from ⟨0, x0, 0, by rw [HRL.out]; omega, rfl, rfl, by
        have e0 := HROT.out 0 hn0
        rw [Nat.add_zero, Nat.mod_eq_of_lt hQn, hx0] at e0
        cases hzz : rotL Q (rawL ls p) with
        | nil => have := HRL.out; rw [hzz] at this; simp at this; omega
        | cons y t => rw [hzz] at e0; simp at e0; subst e0; rfl, c3, (World.drewN_zero wr).symm⟩)
      clear hQ hrl hx0 c3
      go_wp2_with fail
      clear c1 c2 r1 q0
      go_loopw [11, 12] (fun s i wq => RotRel (rotL Q (rawL ls p)) wr s i wq) (fun _ i _ => n - (intOf i).toNat)
      case atStart => exact HST.out
      case round =>
        obtain ⟨k, r, m, hkk, rfl, rfl, hr, hr2, rfl⟩ := hrel
        rw [HRL.out] at hkk
        have HR := Lib.hid hr
        have HR2 := Lib.hid hr2
        have hk1 : (0 : Int) ≤ (k : Int) := by omega
        have hk2 : (k : Int) ≤ 8 := by omega
        clear hr hr2
        by_cases hlk : k + 1 < n
        · have hlk' : (k : Int) + 1 < (n : Int) := by omega
          obtain ⟨J, hJ⟩ : ∃ J, (Q + (k + 1)) % n = J := ⟨_, rfl⟩
          have hJn : J < n := by rw [← hJ]; exact Nat.mod_lt _ hn0
          have r2 : ((Q : Int) + ((k : Int) + 1)).tmod (n : Int) = (J : Int) := by rw [← hJ, Int.tmod_eq_emod_of_nonneg (by omega)]; rfl
          have r3 : (n : Int) ≠ 0 := by omega
          have j3 : (J : Int) < (n : Int) := by omega
          have j4 : (0 : Int) ≤ (J : Int) := by omega
          obtain ⟨ab, ao, ac, c1, c2, c3⟩ := HRAW.out J hJn wr HL.out
          have HNX := Lib.hid (fun W => line_next (w := W) (show k + 1 < (rotL Q (rawL ls p)).length by rw [HRL.out]; exact hlk) HR.out)
          rw [HROT.out (k + 1) hlk, hJ] at HNX
          obtain ⟨x, hx⟩ : ∃ x, (rawL ls p).getD J 0 = x := ⟨_, rfl⟩
          rw [hx] at c2 HNX
          clear hx hJ c3
          go_wp2_with fail
          go_roundw
          case rel => exact ⟨k + 1, _, _, by rw [HRL.out]; omega, by go_num, rfl, HNX.out _, fval_lt .add .f32 _ _ _, rfl⟩
          case measure => simp [intOf]; omega
        · have hkn : k + 1 = n := by omega
          have hge : ¬ ((k : Int) + 1 < (n : Int)) := by omega
          have HC := Lib.hid (show canon .f32 r = FV p by rw [HR.out, List.take_of_length_le (by rw [HRL.out, hkn]; exact Nat.le_refl _), HV.out])
          have A1 := Lib.hid (show xs.length + 1 ≤ maxLen by have := HY.out; have := HL5.out; unfold maxLen; omega)
          have A2 := Lib.hid (show (xs.length + 1) * 4 ≤ 140737488355328 by have := HY.out; have := HL5.out; omega)
          have A3 := Lib.hid HL.out.size
          clear hkn
          go_wp2_with (at_builtin; refine wpList_append_any _ rfl (.tmp 98) (.tmp 100) 25 rfl w.heap.size 67 i0 (.float .f32 0) 1 4 Try.underlying25 HI.out HZ0.out HZ1.out HZ2.out rfl Nat.one_pos (.slice q xs.length cp) xs.length (xs.map (Value.float .f32)) rfl (grow_own HO.out) (wr.heap.size + 1) (some ⟨wr.heap.size, 0, none⟩) 1 1 [.float .f32 r] rfl grow_reads (one_f32 _) A1.out A2.out (grow_base A3.out) ?_; intro v' w' hown hgr hat; obtain ⟨a', c', rfl⟩ := ownsRow_slice hown; have hmade := grow_next (n := L) hlt HO.out (Nat.le_refl _) HL.out HE.out HY.out HR2.out HC.out hown hgr; have HMD := Lib.hid hmade; clear hown hgr hat hmade)
          go_roundw
          case rel => exact HMD.out
          case measure => simp [intOf]; omega
    · obtain rfl : p = L := by omega
      go_wp2_with fail
      go_ret
      exact ⟨q, cp, xs, rfl, HO.out, HE.out, HL.out⟩
end Go.Proofs.Ytpdgpoonblldgaa
