/-
  ReadList: its values, and the model's. Conditions: the text has at most 2 ^ 20 bytes.
-/
import Derived.Test.YtjecphimknfphaaDoorCta
import Derived.Test.YtjecphimknfphaaDoorRdn
import Derived.Test.YtjecphimknfphaaDoorGrJ
namespace Go.Proofs.YtjecphimknfphaaDoor
open Go.RowKit Go.Deep Go.WideShapes Go.ChangeShapes
set_option linter.unusedVariables false
set_option linter.unusedSimpArgs false

def okRL (l : List UInt8) : Bool := decide ((parts 44 l).length ≤ 64) && (parts 44 l).all okRD
def vRL (l : List UInt8) : Bool × List Int := if l = noneT then (true, []) else if okRL l = true then (true, (parts 44 l).map mv) else (false, [])
theorem vRL_none {l : List UInt8} (h : l = noneT) : vRL l = (true, []) := if_pos h
theorem vRL_no {l : List UInt8} (h : l ≠ noneT) (h2 : okRL l = false) : vRL l = (false, []) := by unfold vRL; rw [if_neg h, h2]; rfl
theorem vRL_yes {l : List UInt8} (h : l ≠ noneT) (h2 : okRL l = true) : vRL l = (true, (parts 44 l).map mv) := by unfold vRL; rw [if_neg h, if_pos h2]
theorem vRL_len (l : List UInt8) : (vRL l).2.length ≤ 64 := by
  unfold vRL
  split
  · simp
  · split
    · rename_i h
      simp only [okRL, Bool.and_eq_true, decide_eq_true_eq] at h
      simpa using h.1
    · simp
theorem okRL_long {l : List UInt8} (h : 64 < (parts 44 l).length) : okRL l = false := by unfold okRL; rw [decide_eq_false (by omega)]; rfl
theorem okRL_bad {l : List UInt8} {k : Nat} {p : List UInt8} (h : (parts 44 l)[k]? = some p) (hp : okRD p = false) : okRL l = false := by
  unfold okRL
  have : (parts 44 l).all okRD = false := by
    rw [List.all_eq_false]
    exact ⟨p, List.mem_of_getElem? h, by rw [hp]; decide⟩
  rw [this, Bool.and_false]
theorem okRL_yes {l : List UInt8} (h : (parts 44 l).length ≤ 64) (h2 : (parts 44 l).all okRD = true) : okRL l = true := by unfold okRL; rw [decide_eq_true h, h2]; rfl
theorem mv_wf {p : List UInt8} (h : okRD p = true) : (Lit.int .i64 (mv p)).wf = true := by
  obtain ⟨h1, h2⟩ := listable_of (rd_ok h).2.1
  simp [Lit.wf, IntKind.min, IntKind.max, IntKind.signed, IntKind.bits]
  omega
theorem okp_next {ps : List (List UInt8)} {k : Nat} {p : List UInt8} (h : ps[k]? = some p) (ha : (ps.take k).all okRD = true) (hp : okRD p = true) : (ps.take (k + 1)).all okRD = true := by
  rw [List.take_add_one, h, List.all_append, ha]
  simp [hp]
theorem mvs_next {ps : List (List UInt8)} {k : Nat} {p : List UInt8} (h : ps[k]? = some p) : (ps.take (k + 1)).map mv = (ps.take k).map mv ++ [mv p] := by
  rw [List.take_add_one, h, List.map_append]
  rfl
theorem parts_sizes {m : UInt8} : ∀ {l p : List UInt8}, p ∈ parts m l → p.length ≤ l.length
  | [], p, h => by simp [parts] at h; subst h; simp
  | c :: r, p, h => by
    rw [parts] at h
    split at h
    · rcases List.mem_cons.1 h with rfl | h
      · simp
      · exact Nat.le_succ_of_le (parts_sizes h)
    · split at h
      · simp at h; subst h; simp
      · rename_i x xs hx
        rcases List.mem_cons.1 h with rfl | h
        · have := parts_sizes (m := m) (l := r) (p := x) (by rw [hx]; exact List.mem_cons_self ..)
          simpa using this
        · exact Nat.le_succ_of_le (parts_sizes (by rw [hx]; exact List.mem_cons_of_mem _ h))
theorem parts_count (m : UInt8) : ∀ l : List UInt8, (parts m l).length ≤ l.length + 1
  | [] => by simp [parts]
  | c :: r => by
    have ih := parts_count m r
    rw [parts]
    split
    · simpa using ih
    · split
      · simp
      · rename_i x xs hx
        rw [hx] at ih
        simp at ih ⊢
        omega
theorem intG_next {B n : Nat} {w wr w' : World} {b a' : Option Addr} {cp cp' : Nat} {v : Int} {ys : List Int} (hn : ys.length = n) (ho : OwnI wr B b cp ys) (hB : w.heap.size ≤ B) (hl : Below w.heap.size w wr) (hv : (Lit.int .i64 v).wf = true)
    (hown : w'.ownsRow B 2 1 (.slice a' (n + 1) cp') (n + 1) (ys.map toV ++ [.int .i64 v])) (hg : (wr.alloc (.cells #[.int .i64 v] 2)).grownBy w' (Value.ownBlock (.slice b n cp))) :
    OwnI w' B a' cp' (ys ++ [v]) ∧ Below w.heap.size w w' := by
  rw [ownBlock_slice] at hg
  have bw : Below wr.heap.size wr (wr.alloc (.cells #[.int .i64 v] 2)) := (Below.refl _ _).alloc (Nat.le_refl _) _
  have ho1 := ho.kept bw
  subst hn
  refine ⟨⟨by simpa [toV] using hown, fun y hy' => ?_⟩, (hl.trans (bw.mono hl.size)).grown hg (Nat.le_trans hl.size bw.size) (fun g h => Nat.le_trans hB (ho1.lt g h).1)⟩
  rcases List.mem_append.1 hy' with h | h
  · exact ho.2 _ h
  · simp at h; subst h; exact hv
theorem OwnS.base {w : World} {B B' : Nat} {a : Option Addr} {cap : Nat} {ls : List (List UInt8)} (h : OwnS w B a cap ls) (hb : B' ≤ B) : OwnS w B' a cap ls := by
  refine ⟨h.1, ?_⟩
  rcases h.2 with h' | ⟨g, c, cur, hv, hB, r⟩
  · exact .inl h'
  · exact .inr ⟨g, c, cur, hv, by omega, r⟩
theorem OwnS.apart {w w' : World} {B : Nat} {a b : Option Addr} {cap : Nat} {ls : List (List UInt8)} (h : OwnS w B a cap ls) (hg : w.grownBy w' (blk b)) (hne : ∀ g, blk a = some g → blk b ≠ some g) : OwnS w' B a cap ls := by
  refine World.ownsRow.kept h hg ?_
  rw [ownBlock_slice]
  cases ha : blk a with
  | none => exact .inl rfl
  | some g => exact .inr (fun e => hne g ha e.symm)
end Go.Proofs.YtjecphimknfphaaDoor
