/-
  Lists of lists of floats in the words of the generator of laws. Conditions: the cells can be read.
-/
import Derived.Test.YtdgoladbkaldkaaSSz
namespace Go.Proofs.Ytdgoladbkaldkaa
open Go.RowKit Go.Deep Go.WideShapes Go.ChangeShapes
set_option linter.unusedVariables false

theorem ssAt_owns {w : World} {B : Nat} {t : TypeId} {g : Option Addr} {n c : Nat} {ls : List FlA} (hl : ls.length = n) (h : OwnL w B [.sl t 1 n g c (ssC ls)]) : SSAt w g n c ls := by
  subst hl
  exact ssAt_own h
theorem ss_can_of {xs ys : List FlA} (h : xs.map FlA.z = ys.map FlA.z) : xs.map (fun x => x.z.map (canon .f32)) = ys.map (fun x => x.z.map (canon .f32)) := by
  have h1 : (xs.map FlA.z).map (List.map (canon .f32)) = (ys.map FlA.z).map (List.map (canon .f32)) := by rw [h]
  simpa [List.map_map, Function.comp_def] using h1
def cntZZ (zs : List (List Nat)) : Nat := (zs.map List.length).sum
theorem cntSS_z (ls : List FlA) : cntSS ls = cntZZ (ls.map FlA.z) := by simp [cntSS, cntZZ, List.map_map, Function.comp_def]
theorem cnt_ss_copy {y : List FlA} {ps : List FlA} (hp : y.map FlA.z = ps.map FlA.z) : cntSS y = cntSS ps := by rw [cntSS_z, cntSS_z, hp]
theorem len_ss_copy {y : List FlA} {ps : List FlA} (hp : y.map FlA.z = ps.map FlA.z) : y.length = ps.length := by simpa using congrArg List.length hp
theorem ssAt_at {w : World} {t : TypeId} {g : Option Addr} {c : Nat} {ls : List FlA} (h : AtL w [.sl t 1 ls.length g c (ssC ls)]) : SSAt w g ls.length c ls := by
  have h1 := h.1
  simp only [Cl.At, ssC_at, Nat.mul_one, vs_ssC] at h1
  obtain ⟨⟨h2, h3, _, h5⟩, h6⟩ := h1
  refine ⟨rfl, h2, h3, h6, ?_⟩
  rcases h5 with h0 | ⟨b, off, e, hlt, hc⟩
  · exact .inl h0
  · refine .inr ⟨b, off, e, hlt, fun i x hx => ?_⟩
    rw [hc i (List.getElem?_eq_some_iff.1 hx).1]
    simp [hx]
theorem typed_sss {c : Cl} (h : c.typed (.sl 40 1 [.sl 52 1 [.f32]])) : ∃ g cap rs, c = .sl 40 1 (List.length rs) g cap (ssC rs) := by
  rw [Cl.typed.eq_4] at h
  obtain ⟨g, cap, ls, rfl, hl⟩ := h
  obtain ⟨rs, e1, e2⟩ := typed_list (fun y : FlA => [y.cl]) (es := [.sl 52 1 [.f32]]) (fun l h => by
    simp only [typedL] at h
    obtain ⟨c, cs, rfl, h, rfl⟩ := h
    obtain ⟨a, cap, ys, rfl⟩ := typed_f32s h
    exact ⟨⟨ys, a, cap⟩, rfl⟩) ls hl
  have hm : ∀ ys : List FlA, ys.flatMap (fun y => [y.cl]) = ssC ys := fun ys => by
    induction ys with
    | nil => rfl
    | cons y ys ih => rw [List.flatMap_cons, ih]; rfl
  exact ⟨g, cap, rs, by rw [e1, hm, ← e2]⟩
/-! results: a list of lists and ok -/
theorem held_ss {w : World} {B : Nat} {t : TypeId} {gs : Option Addr} {cap k n : Nat} {ys : List FlA} (hl : ys.length = n) (h : OwnL w B [.sl t 1 n gs cap (ssC (mkSS k ys))]) : SSAt w gs n cap (mkSS k ys) :=
  ssAt_owns (by rw [mkSS_length]; exact hl) h
theorem retSS_bound {ys : List FlA} {zs : List (List Nat)} (hy : ys.map (fun x => x.z.map (canon .f32)) = zs) (hz : zs.length + cntZZ zs ≤ 1048576) : 1 + cntSS ys ≤ 8388608 ∧ cntSS ys ≤ 1048576 ∧ ys.length ≤ 1048576 := by
  have h1 : cntSS ys = cntZZ zs := by rw [← hy]; simp [cntSS, cntZZ, List.map_map, Function.comp_def]
  have h2 : ys.length = zs.length := by rw [← hy]; simp
  omega
end Go.Proofs.Ytdgoladbkaldkaa
