/-
  Texts as lists of bytes: put together, and how long. Conditions: none.
-/
import Derived.Test.YtpfbhckmpkiijaaDoorRows
import Derived.WalkKit
namespace Go.Proofs.YtpfbhckmpkiijaaDoor
open Go.RowKit

theorem txt_append (a b : List UInt8) : ((⟨a.toArray⟩ : ByteArray) ++ ⟨b.toArray⟩) = ⟨(a ++ b).toArray⟩ := by
  apply ByteArray.ext
  simp
theorem txt_size (m : List UInt8) : (⟨m.toArray⟩ : ByteArray).size = m.length := by simp [ByteArray.size]
end Go.Proofs.YtpfbhckmpkiijaaDoor
