/-
  Copies of lists of lists, as the program makes them. Conditions: the lists can be read.
-/
import Derived.Test.YthklfkfhhdglcaaSSz
import Derived.Test.YthklfkfhhdglcaaFun
namespace Go.Proofs.Ythklfkfhhdglcaa
open Go.RowKit Go.Deep Go.WideShapes Go.ChangeShapes
set_option linter.unusedVariables false

/-- a list of lists that the call made, with any capacities -/
def RetSSc (ps : List (List Nat)) (n : Nat) (w : World) (e : Ending) (w' : World) : Prop :=
  ∃ (gs : Option Addr) (cp : Nat) (ys : List FlA), e = .returned (.slice gs n cp) ∧ ys.length = n ∧ ys.map FlA.z = ps ∧ OwnL w' w.heap.size [.sl 32 1 n gs cp (ssC ys)] ∧ (blL [.sl 32 1 n gs cp (ssC ys)]).Nodup ∧ Below w.heap.size w w'
set_option maxRecDepth 20000 in
set_option maxHeartbeats 1000000 in
theorem c_copySS (g : Option Addr) (cap n : Nat) (ls : List FlA) (w : World) (h : SSAt w g n cap ls) (hl : n + cntSS ls ≤ 1048576) :
    Calls Try.prog 149 #[.slice g n cap, .func (.func 150) #[] #[]] w (RetSSc (ls.map FlA.z) n w) := by
  have hnm : n ≤ maxLen := by have h1 := h.2.1; have h2 := h.2.2.1; omega
  have hn1 : n ≤ 1048576 := by omega
  obtain ⟨i0, hi, hz0, hz1, hz2⟩ := info_parts info_ss
  have HI := Lib.hid hi
  have HZ0 := Lib.hid hz0
  have HZ1 := Lib.hid hz1
  have HZ2 := Lib.hid hz2
  have H := Lib.hid h
  have HL := Lib.hid hl
  have HM := Lib.hid hnm
  clear h hi hz0 hz1 hz2 hl hnm
  go_enter Try.func149, Try.ntmps149
  go_wp2_with (at_make; refine wpList_make_full _ rfl _ _ 69 rfl w.heap.size 32 i0 (.slice none 0 0) 1 Try.underlying69 HI.out HZ0.out HZ1.out _ _ _ _ n rfl rfl rfl rfl ?c1 ?c2 ?c3 ?_)
  case c1 => rw [HZ2.out]; omega
  case c2 => exact HM.out
  case c3 => exact Nat.le_refl _
  intro w1 hown hgrow
  have hb1 : Below w.heap.size w w1 := (Below.refl _ _).grown hgrow (Nat.le_refl _) (fun k h => by cases h)
  have HO := Lib.hid hown
  have HB := Lib.hid hb1
  clear hown hb1 hgrow
  go_wp2_with fail
  go_loopw [13] (fun iv wr => ToSSRel ls n w.heap.size w iv wr) (fun iv _ => n - (intOf iv).toNat)
  case atStart => exact ⟨0, [], _, Nat.zero_le _, rfl, rfl, rfl, HO.out, rfl, by simp [ssC, OwnL], by simp [ssC, blL], HB.out⟩
  case round =>
    obtain ⟨k, ys, cur, hk, rfl, hyl, hyp, ho, htk, how, hnd, hb⟩ := hrel
    have HYL := Lib.hid hyl
    have HYP := Lib.hid hyp
    have HO' := Lib.hid ho
    have HT := Lib.hid htk
    have HW := Lib.hid how
    have HND := Lib.hid hnd
    have HB' := Lib.hid hb
    have hk0 : (0 : Int) ≤ (k : Int) := by omega
    clear hyl hyp ho htk how hnd hb
    by_cases hlt : k < n
    · obtain ⟨b, off, z, a, c, rfl, hbk, hx, q, f⟩ := (H.out.kept HB'.out).one hlt
      have hlt' : (k : Int) < (n : Int) := by omega
      have hst := cntSS_take hx
      dsimp only at hst
      have htl := cntSS_le ls (k + 1)
      have z0 : z.length ≤ 1048576 := by have := HL.out; omega
      have HX := Lib.hid hx
      have HF := Lib.hid f
      have Z0 := Lib.hid z0
      clear f hx hst htl z0
      go_wp2_with fail
      refine (c_copyOf a z.length c z _ HF.out Z0.out).mono ?_
      rintro e w2 ⟨a0, cc, rfl, o0, bl⟩
      have ho2 := row_kept HO'.out bl
      obtain ⟨z0, v0, y0⟩ := row_cell ho2 k (by omega)
      have O2 := Lib.hid ho2
      have OO := Lib.hid (show OwnL w2 wr.heap.size [(FlA.mk z a0 cc).cl] by simp only [OwnL, FlA.cl, flC_own, and_true]; exact o0)
      have BL := Lib.hid bl
      clear ho2 o0 bl q
      go_wp2_with fail
      clear z0 y0
      go_roundw
      case rel =>
        have hlt0 : w.heap.size < wr.heap.size := (HO'.out.lt _ rfl).2
        obtain ⟨cur', hr, ht⟩ := store1 O2.out hlt (v0 := .slice a0 z.length cc)
        have how2 : OwnL w2 (w.heap.size + 1) (ssC (ys ++ [⟨z, a0, cc⟩])) := by
          rw [ssC_snoc, OwnL_append]
          exact ⟨OwnL.kept HW.out BL.out, OwnL.base (by omega) _ OO.out⟩
        refine ⟨k + 1, ys ++ [⟨z, a0, cc⟩], cur', by omega, by go_num, by simp [HYL.out], ?_, hr, ?_, how2.far (p := ⟨w.heap.size, _, none⟩) (by simp) _, ?_,
          (HB'.out.trans (BL.out.mono HB'.out.size)).setCell (p := ⟨w.heap.size, _, none⟩) (Nat.le_refl _) _⟩
        · rw [List.take_add_one, HX.out, List.map_append, List.map_append, HYP.out]
          rfl
        · rw [ht, HT.out, List.map_append]
          rfl
        · rw [ssC_snoc, blL_append]
          refine List.nodup_append.2 ⟨HND.out, ?_, ?_⟩
          · simp only [blL, FlA.cl, flC_bl, List.append_nil]
            cases blk a0 <;> simp
          · intro x hx y hy e
            subst e
            exact apart_new HW.out OO.out x hx hy
      case measure => simp [intOf]; omega
    · obtain rfl : k = n := by omega
      go_wp2_with fail
      go_ret
      have ho := HO'.out
      have hcur : cur = ys.map FlA.v := by
        rw [← HT.out, List.take_of_length_le (by have := ho.1; omega)]
      rw [hcur] at ho
      have hlt : w.heap.size < wr.heap.size := (ho.lt _ rfl).2
      refine ⟨some ⟨w.heap.size, 0, none⟩, k, ys, rfl, HYL.out, by rw [HYP.out]; rw [← H.out.1, List.take_length], ?_, ?_, HB'.out⟩
      · simp only [OwnL, Cl.Own, and_true, vs_ssC]
        exact ⟨ho, OwnL.base (by omega) _ HW.out⟩
      · simp only [blL, Cl.bl, List.append_nil]
        refine List.nodup_append.2 ⟨by simp [blk], HND.out, ?_⟩
        intro x hx y hy e
        have := (OwnL.lt _ HW.out y hy).1
        simp [blk] at hx
        omega
end Go.Proofs.Ythklfkfhhdglcaa
