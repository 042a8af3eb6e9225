/-
  AreInSync: both sides as the law asks for them. Conditions: the cells can be read.
-/
import Derived.Test.YtaipegkkpkagnaaAit
namespace Go.Proofs.Ytaipegkkpkagnaa
open Go.RowKit Go.Deep Go.WideShapes Go.ChangeShapes

theorem mdsAt_owns {w : World} {B : Nat} {t t' : TypeId} {g : Option Addr} {n c : Nat} {ls : List ModA} (hl : ls.length = n) (h : OwnL w B [.sl t 1 n g c (mdC t' ls)]) : MdsAt w g n c ls := by
  subst hl
  exact mdsAt_own h
theorem tt_sAreInSync (ps : List (List LayP)) (n : Nat) (g : Option Addr) (c : Nat) (y : List ModA) (w : World) (hp : y.map ModA.P = ps) (h : MdsAt w g n c y) : Calls Try.prog 27 #[.slice g n c] w (RetB (vAreInSync ps) w) := by
  subst hp
  obtain rfl : y.length = n := h.1
  exact t_sAreInSync g c y w h
theorem tt_iAreInSync (ps : List (List LayP)) (n : Nat) (g : Option Addr) (c : Nat) (y : List ModA) (w : World) (hp : y.map ModA.P = ps) (h : MdsAt w g n c y) : Calls Try.prog 29 #[.slice g n c] w (RetB (vAreInSync ps) w) := by
  subst hp
  obtain rfl : y.length = n := h.1
  exact t_iAreInSync g c y w h
end Go.Proofs.Ytaipegkkpkagnaa
