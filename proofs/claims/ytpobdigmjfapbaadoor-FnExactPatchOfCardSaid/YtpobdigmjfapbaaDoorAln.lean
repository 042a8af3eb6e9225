/-
  All numbers of a state: the model and the program. Conditions: the cells can be read.
-/
import Derived.Test.YtpobdigmjfapbaaDoorStu
import Derived.Test.YtpobdigmjfapbaaDoorCon
namespace Go.Proofs.YtpobdigmjfapbaaDoor
open Go.RowKit Go.Deep Go.WideShapes Go.ChangeShapes
set_option linter.unusedVariables false
attribute [local go_sem] World.drewN_zero

def allN (q : TrsA) : List Nat := parOf q.ps ++ catS q.ss
def vAllNumbers (q : TrsA) : Bool × List Nat := if stbB q = true then (true, (allN q).map (canon .f32)) else (false, [])
theorem allN_of {r q : TrsA} (h : TrsEq r q) : allN r = allN q := by
  obtain ⟨h1, h2, _⟩ := h
  have e : ∀ t : TrsA, catS t.ss = t.zs.flatten := fun t => by simp [catS, TrsA.zs, List.flatMap_def]
  unfold allN
  rw [h1, e, e, h2]
theorem vAllNumbers_of {r q : TrsA} (h : TrsEq r q) : vAllNumbers r = vAllNumbers q := by
  unfold vAllNumbers
  rw [stbB_of h, allN_of h]
theorem catS_len (ls : List FlA) (N : Nat) (h : ∀ x ∈ ls, x.z.length = N) : (catS ls).length = ls.length * N := by
  induction ls with
  | nil => simp [catS]
  | cons x ls ih =>
    have h1 := ih fun y hy => h y (List.mem_cons_of_mem _ hy)
    have h2 := h x (List.mem_cons_self ..)
    simp only [catS, List.flatMap_cons, List.length_append, List.length_cons] at h1 ⊢
    rw [h1, h2, Nat.add_mul, Nat.one_mul, Nat.add_comm]
theorem stb_bounds {q : TrsA} (h : stbB q = true) : q.ls.length ≤ 6 ∧ laySum q.ps ≤ 432 ∧ q.ss.length ≤ 4 ∧ (catS q.ss).length ≤ 1728 ∧ (parOf q.ps).length = laySum q.ps := by
  obtain ⟨h1, h2, h3⟩ := stbB_parts h
  obtain ⟨_, v2, v3⟩ := vMod_parts h1
  have hc := catS_len q.ss _ h3
  have hm : q.ss.length * laySum q.ps ≤ 4 * 432 := Nat.mul_le_mul h2 v3
  refine ⟨by simpa [TrsA.ps] using v2, v3, h2, by omega, parOf_length _⟩
theorem allN_len {q : TrsA} (h : stbB q = true) : (allN q).length ≤ 2160 := by
  obtain ⟨_, b2, _, b4, b5⟩ := stb_bounds h
  unfold allN
  rw [List.length_append]
  omega
theorem vAllNumbers_len (q : TrsA) : (vAllNumbers q).2.length ≤ 1048576 := by
  unfold vAllNumbers
  split
  · rename_i h
    have := allN_len h
    simp; omega
  · simp
def AllNRel (P : List Nat) (ls : List FlA) (m : Nat) (w : World) (s iv : Value) (wr : World) : Prop :=
  ∃ (k : Nat) (b : Option Addr) (cp : Nat), k ≤ m ∧ iv = .int .i64 k ∧ s = .slice b (P ++ catU ls k).length cp ∧ OwnF wr w.heap.size b cp (P ++ catU ls k) ∧ Below w.heap.size w wr
set_option maxRecDepth 20000 in
set_option maxHeartbeats 2000000 in
theorem c_l08All (gt : Nat) (q : TrsA) (w : World) (h : TrsAt w q) (K : Blk w gt 51 q.cells) (hs : stbB q = true) :
    Calls Tryd.prog 109 #[.pointer (some ⟨gt, 0, none⟩)] w (RetFs (allN q) w) := by
  obtain ⟨b1, b2, b3, b4, b5⟩ := stb_bounds hs
  obtain ⟨g, c, ls, g', c', ss, st, sd, sc⟩ := q
  simp only [TrsAt] at h
  obtain ⟨a1, a2, _⟩ := h
  unfold TrsA.cells at K
  simp only [TrsA.ps, allN] at K b1 b2 b3 b4 b5 ⊢
  obtain ⟨i0, hi, hz0, hz1, hz2⟩ := info_parts info_f32
  have HI := Lib.hid hi
  have HZ0 := Lib.hid hz0
  have HZ1 := Lib.hid hz1
  have HZ2 := Lib.hid hz2
  have HP := Lib.hid (fun hgp hq => c_l03Params gt 0 g c ls.length ls w hgp hq a1 b2 b1)
  obtain ⟨Z, hZ⟩ : ∃ Z, parOf (ls.map LayA.p) = Z := ⟨_, rfl⟩
  rw [hZ] at HP b5 ⊢
  have HZL := Lib.hid (show Z.length ≤ 432 by omega)
  obtain ⟨n, hn⟩ : ∃ n, ls.length = n := ⟨_, rfl⟩
  obtain ⟨m, hm⟩ : ∃ m, ss.length = m := ⟨_, rfl⟩
  rw [hn, hm] at K
  rw [hn] at HP
  rw [hm] at a2 b3
  have HN := Lib.hid hm
  have A2 := Lib.hid a2
  have KK := Lib.hid K
  have H4 := Lib.hid b4
  have hm4 : (m : Int) ≤ 4 := by omega
  clear hZ hn hm a1 a2 K b1 b2 b3 b4 b5 hi hz0 hz1 hz2 hs
  obtain ⟨p0, p1, p2, p3, p4, p5⟩ := tbt5 KK.out
  go_enter Tryd.func109, Tryd.ntmps109
  go_wp2_with fail
  refine (HP.out p5 p0).mono ?_
  rintro e w2 ⟨b, cp, rfl, ho, hb⟩
  have HO2 := Lib.hid ho
  have B2 := Lib.hid hb
  clear ho hb p0 p1 p2 p3 p4 p5 hm4
  go_wp2_with fail
  go_loopw [3, 4] (fun s iv wr => AllNRel Z ss m w s iv wr) (fun _ iv _ => m - (intOf iv).toNat)
  case atStart => exact ⟨0, b, cp, Nat.zero_le _, rfl, by simp [catU, catS], by simpa [catU, catS] using HO2.out, B2.out⟩
  case round =>
    obtain ⟨j, b, cp, hj, rfl, rfl, ho, hbl⟩ := hrel
    have HO := Lib.hid ho
    have HL := Lib.hid hbl
    have K2 := Lib.hid (KK.out.below hbl)
    have hm64 : m ≤ 9223372036854775807 := by have h1 := A2.out.2.1; have h2 := A2.out.2.2.1; unfold maxLen at h2; omega
    clear ho hbl
    obtain ⟨p0, p1, p2, p3, p4, p5⟩ := tbt5 K2.out
    by_cases hlt : j < m
    · have hlt' : (j : Int) < (m : Int) := by omega
      obtain ⟨gb, off, z, a, c9, rfl, hbk, hx, qq, f⟩ := (A2.out.kept HL.out).one hlt
      have HSUC := Lib.hid (catU_succ hx)
      have hle := catU_le ss (j + 1)
      rw [catU_succ hx, List.length_append] at hle
      dsimp only at hle
      have hTT := H4.out
      have hzz := HZL.out
      have A1 := Lib.hid (show (Z ++ catU ss j).length + z.length ≤ 4096 by rw [List.length_append]; omega)
      have HFX := Lib.hid f
      obtain ⟨tl, htl⟩ : ∃ tl, Z ++ catU ss j = tl := ⟨_, rfl⟩
      have HTL := Lib.hid htl
      rw [htl] at HO A1 ⊢
      clear hx f htl hle hTT hzz
      go_wp2_with (at_builtin; refine wpList_append_any _ rfl (.tmp 18) (.tmp 25) _ rfl w.heap.size 31 i0 _ 1 4 Tryd.underlying24 HI.out HZ0.out HZ1.out HZ2.out rfl (by omega) (.slice b tl.length cp) tl.length _ rfl HO.out.1 _ a z.length c9 _ rfl HFX.out.reads (ones_f32 _) ?c1 ?c2 HL.out.size ?_)
      case c1 => have := A1.out; unfold maxLen; omega
      case c2 => have := A1.out; omega
      intro v' w5 hown hgr hat
      obtain ⟨a', c', rfl⟩ := ownsRow_slice hown
      have HNX := Lib.hid (app_next HO.out HFX.out.2.2.2.1 hown hgr (Nat.le_refl _) HL.out)
      clear hown hgr hat qq p0 p1 p2 p3 p4 p5
      go_wp2_with fail
      go_roundw
      case rel =>
        obtain ⟨t1, t2⟩ := HNX.out
        refine ⟨j + 1, a', c', by omega, by go_num, ?_, ?_, t2⟩
        · rw [HSUC.out, ← List.append_assoc, HTL.out, List.length_append]
        · rw [HSUC.out, ← List.append_assoc, HTL.out]; exact t1
      case measure => simp [intOf]; omega
    · obtain rfl : j = m := by omega
      rw [catU_all HN.out] at HO ⊢
      go_wp2_with fail
      go_ret
      exact ⟨b, cp, rfl, HO.out, HL.out⟩
end Go.Proofs.YtpobdigmjfapbaaDoor
