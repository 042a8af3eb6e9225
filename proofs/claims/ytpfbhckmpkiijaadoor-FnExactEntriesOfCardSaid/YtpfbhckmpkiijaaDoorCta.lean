/-
  The parts of a text between marks: the model's. Conditions: the text has at most 2 ^ 30 bytes.
-/
import Derived.Test.YtpfbhckmpkiijaaDoorPrt
import Derived.Test.YtpfbhckmpkiijaaDoorCheck
import Derived.Test.YtpfbhckmpkiijaaDoorApp
import Derived.Test.YtpfbhckmpkiijaaDoorSrs
namespace Go.Proofs.YtpfbhckmpkiijaaDoor
open Go.RowKit Go.Deep Go.WideShapes Go.ChangeShapes
set_option linter.unusedVariables false
set_option linter.unusedSimpArgs false

def strB (l : List UInt8) : ByteArray := ⟨l.toArray⟩
theorem strB_size (l : List UInt8) : (strB l).size = l.length := by simp [strB, ByteArray.size]
theorem strB_list (l : List UInt8) : (strB l).data.toList = l := by simp [strB]
/-- a row of texts that the call made -/
def OwnS (w : World) (B : Nat) (a : Option Addr) (cap : Nat) (ls : List (List UInt8)) : Prop := w.ownsRow B 9 1 (.slice a ls.length cap) ls.length (ls.map fun l => Value.string (strB l))
theorem OwnS.kept {w w' : World} {B : Nat} {a : Option Addr} {cap : Nat} {l : List (List UInt8)} (h : OwnS w B a cap l) (hb : Below w.heap.size w w') : OwnS w' B a cap l :=
  World.ownsRow.kept h (row := none) ⟨hb.os, hb.tape, hb.output, hb.size, fun j hj _ => hb.block j hj⟩ (by cases hv : Value.ownBlock (.slice a l.length cap) <;> simp)
theorem OwnS.lt {w : World} {B : Nat} {a : Option Addr} {cap : Nat} {l : List (List UInt8)} (h : OwnS w B a cap l) : ∀ g, blk a = some g → B ≤ g ∧ g < w.heap.size := by
  intro g hg
  refine World.ownsRow.lt h g ?_
  cases a with
  | none => cases hg
  | some p => simpa [blk, Value.ownBlock] using hg
theorem nil_ownS (w : World) (B : Nat) : OwnS w B none 0 [] := World.ownsRow_nil _ _ _ _
theorem ownS_made (w : World) : OwnS (w.alloc (.cells #[] 9)) w.heap.size (some ⟨w.heap.size, 0, none⟩) 0 [] := World.ownsRow_made w #[] 0 (Nat.le_refl _) (by unfold maxLen; omega) rfl
theorem OwnS.isStrs {w : World} {B : Nat} {a : Option Addr} {cap : Nat} {ls : List (List UInt8)} (h : OwnS w B a cap ls) (hl : ∀ l ∈ ls, l.length ≤ maxLen) : IsStrs w a ls.length cap (ls.map strB) := by
  refine ⟨by simp, ?_, ?_, ?_, ?_⟩
  · rcases h.2 with ⟨hv, h0⟩ | ⟨g, c, cur, hv, _, _, h1, h2, _⟩
    · omega
    · simp only [Value.slice.injEq] at hv
      omega
  · rcases h.2 with ⟨hv, h0⟩ | ⟨g, c, cur, hv, _, _, h1, h2, _⟩
    · simp only [Value.slice.injEq] at hv
      omega
    · simp only [Value.slice.injEq] at hv
      omega
  · intro s hs
    obtain ⟨l, hl', rfl⟩ := List.mem_map.1 hs
    rw [strB_size]
    exact hl l hl'
  · rcases h.2 with ⟨hv, h0⟩ | ⟨g, c, cur, hv, _, hg, h1, h2, h3, h4⟩
    · exact .inl h0
    · simp only [Value.slice.injEq] at hv
      obtain ⟨rfl, _, rfl⟩ := hv
      refine .inr ⟨g, 0, rfl, (Array.getElem?_eq_some_iff.1 hg).1, fun i x hx => ?_⟩
      have hi : i < ls.length := by have := (List.getElem?_eq_some_iff.1 hx).1; simpa using this
      rw [Nat.zero_add, h.cellAt i (by omega)]
      simp only [List.getElem?_map] at hx ⊢
      rw [List.getElem?_eq_getElem hi] at hx ⊢
      simpa using hx
theorem info_strC : (Tryd.prog.info? 9).map (fun i => (i.zero, i.size, i.bytes)) = some (some (.string ByteArray.empty), 1, 16) := by kernel_rfl
theorem str_reads {wr : World} {v : ByteArray} : Reads (wr.alloc (.cells #[.string v] 9)) (wr.heap.size + 1) 1 (some ⟨wr.heap.size, 0, none⟩) 1 [.string v] := by
  refine ⟨rfl, fun _ => ⟨_, rfl, by simp, fun j u hu => ?_⟩⟩
  rw [add_plain]
  have := (Blk.new wr 9 #[.string v]).cell (0 + j)
  rw [this, Nat.zero_add]
  simpa using hu
theorem one_str (v : ByteArray) : ∀ u ∈ [Value.string v], u.oneCell' = true := by intro u hu; simp at hu; subst hu; rfl
theorem strC_base {B : Nat} {wr : World} {v : ByteArray} (h : B ≤ wr.heap.size) : B ≤ (wr.alloc (.cells #[.string v] 9)).heap.size := by
  rw [World.size_alloc]; exact Nat.le_trans h (Nat.le_succ _)
theorem strC_own {B : Nat} {wr : World} {b : Option Addr} {cp : Nat} {v : ByteArray} {l : List (List UInt8)} (ho : OwnS wr B b cp l) : (wr.alloc (.cells #[.string v] 9)).ownsRow B 9 1 (.slice b l.length cp) l.length (l.map fun l => Value.string (strB l)) := ho.kept ((Below.refl _ _).alloc (Nat.le_refl _) _)
theorem strC_next {B n : Nat} {w wr w' : World} {b a' : Option Addr} {cp cp' : Nat} {v : ByteArray} {c : List UInt8} {l : List (List UInt8)} (hn : l.length = n) (ho : OwnS wr B b cp l) (hB : w.heap.size ≤ B) (hl : Below w.heap.size w wr) (hv : v = strB c)
    (hown : w'.ownsRow B 9 1 (.slice a' (n + 1) cp') (n + 1) ((l.map fun l => Value.string (strB l)) ++ [.string v])) (hg : (wr.alloc (.cells #[.string v] 9)).grownBy w' (Value.ownBlock (.slice b n cp))) :
    OwnS w' B a' cp' (l ++ [c]) ∧ Below w.heap.size w w' := by
  rw [ownBlock_slice] at hg
  have bw : Below wr.heap.size wr (wr.alloc (.cells #[.string v] 9)) := (Below.refl _ _).alloc (Nat.le_refl _) _
  have ho1 := ho.kept bw
  subst hv
  subst hn
  refine ⟨?_, (hl.trans (bw.mono hl.size)).grown hg (Nat.le_trans hl.size bw.size) (fun g h => Nat.le_trans hB (ho1.lt g h).1)⟩
  unfold OwnS
  rw [List.map_append, List.length_append]
  exact hown
theorem extract_of {x : ByteArray} {a b : Nat} {c : List UInt8} {p : List UInt8} (h : x.data.toList.take b = p ++ c) (ha : p.length = a) (hb : b ≤ x.size) : x.extract a b = strB c := by
  apply ByteArray.ext
  apply Array.toList_inj.1
  rw [strB_list, ByteArray.data_extract, Array.toList_extract, List.extract_eq_take_drop]
  have e : (x.data.toList.drop a).take (b - a) = (x.data.toList.take b).drop a := by rw [List.drop_take]
  rw [e, h, ← ha]
  simp
end Go.Proofs.YtpfbhckmpkiijaaDoor
