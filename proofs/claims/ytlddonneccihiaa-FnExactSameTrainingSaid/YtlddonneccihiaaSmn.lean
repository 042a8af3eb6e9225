/-
  States of trainings: what a copy says. Conditions: the cells can be read.
-/
import Derived.Test.YtlddonneccihiaaTrs
namespace Go.Proofs.Ytlddonneccihiaa
open Go.RowKit Go.Deep Go.WideShapes Go.ChangeShapes
set_option linter.unusedVariables false

/-- two states say the same -/
def TrsEq (r q : TrsA) : Prop := r.ps = q.ps ∧ r.zs = q.zs ∧ r.st = q.st ∧ r.sd = q.sd ∧ r.sc = q.sc
theorem cells5 (q : TrsA) : ∃ a n c b m d st sd sc, q.cells = #[.slice a n c, .slice b m d, .int .i64 st, .int .i64 sd, .float .f32 sc] := ⟨_, _, _, _, _, _, _, _, _, rfl⟩
theorem TrsEq.ls {r q : TrsA} (h : TrsEq r q) : r.ls.map (fun x => x.p.can) = q.ls.map (fun x => x.p.can) := by
  have h1 : (r.ls.map LayA.p).map LayP.can = (q.ls.map LayA.p).map LayP.can := congrArg (List.map LayP.can) h.1
  simpa [List.map_map, Function.comp_def] using h1
theorem TrsEq.ss {r q : TrsA} (h : TrsEq r q) : r.ss.map (fun x => x.z.map (canon .f32)) = q.ss.map (fun x => x.z.map (canon .f32)) := by
  have h1 : (r.ss.map FlA.z).map (List.map (canon .f32)) = (q.ss.map FlA.z).map (List.map (canon .f32)) := congrArg (List.map (List.map (canon .f32))) h.2.1
  simpa [List.map_map, Function.comp_def] using h1
theorem TrsEq.symm {r q : TrsA} (h : TrsEq r q) : TrsEq q r := ⟨h.1.symm, h.2.1.symm, h.2.2.1.symm, h.2.2.2.1.symm, h.2.2.2.2.symm⟩
theorem TrsEq.trans {r q p : TrsA} (h : TrsEq r q) (k : TrsEq q p) : TrsEq r p := ⟨h.1.trans k.1, h.2.1.trans k.2.1, h.2.2.1.trans k.2.2.1, h.2.2.2.1.trans k.2.2.2.1, h.2.2.2.2.trans k.2.2.2.2⟩
theorem c_toTrs' (q : TrsA) (w : World) (h : TrsAt w q) (hl : trsSum q ≤ 1048576) :
    Calls Try.prog 9 #[.agg q.cells] w fun e w' => ∃ r : TrsA, e = .returned (.agg r.cells) ∧ TrsEq r q ∧ TrsOwn w' w.heap.size r ∧ Below w.heap.size w w' :=
  (c_toTrs q w h hl).mono fun e w' ⟨r, he, h1, h2, h3, h4, h5, ho, _, hb⟩ => ⟨r, he, ⟨h1, h2, h3, h4, h5⟩, ho, hb⟩
theorem c_eqTrs' (q q' : TrsA) (w : World) (h : TrsAt w q) (h' : TrsAt w q') (he : TrsEq q q') : Calls Try.prog 11 #[.agg q.cells, .agg q'.cells] w fun e w' => e = .returned (.bool true) ∧ Below w.heap.size w w' :=
  c_eqTrs q q' w h h' he.ls he.ss he.2.2.1 he.2.2.2.1 (congrArg _ he.2.2.2.2)
end Go.Proofs.Ytlddonneccihiaa
