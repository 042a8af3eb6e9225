/-
  Whether a copy of a state can be stored. Conditions: none.
-/
import Derived.Test.YtpobdigmjfapbaaDoorStb
import Derived.Test.YtpobdigmjfapbaaDoorSmn
namespace Go.Proofs.YtpobdigmjfapbaaDoor
open Go.RowKit

theorem stbB_of {r q : TrsA} (h : TrsEq r q) : stbB r = stbB q := by
  obtain ⟨h1, h2, h3, h4, _⟩ := h
  have hl : r.ss.length = q.ss.length := by have := congrArg List.length h2; simpa [TrsA.zs] using this
  have ha : ∀ N : Int, ∀ t : TrsA, t.ss.all (lenT N) = t.zs.all (fun z => ((z.length : Int) == N)) := fun N t => by
    unfold TrsA.zs
    rw [List.all_map]
    rfl
  unfold stbB
  rw [h1, hl, h3, h4, ha, ha, h2]
end Go.Proofs.YtpobdigmjfapbaaDoor
