/-
  Data of nested types that came in: numbers, booleans, slices and structs of these to any depth, opened at once. Conditions: the type is built of int64, float32, bool, slices and structs alone.
-/
import Derived.Test.YtdgoladbkaldkaaCl
namespace Go.Proofs.Ytdgoladbkaldkaa
open Go.RowKit Go.Deep Go.ChangeShapes Go.WideShapes

inductive Ty where
  | int | f32 | bool
  | sl (e : TypeId) (sz : Nat) (es : List Ty)
def fsTy (P : Program) (r : TypeId → Option (List Ty)) : List Field → Nat → Option (List Ty)
  | [], _ => some []
  | f :: fs, off => match r f.type, fsTy P r fs (off + P.cellsOf f.type) with
    | some a, some b => if f.offset = off ∧ a.length = P.cellsOf f.type then some (a ++ b) else none
    | _, _ => none
/-- the cells of a type -/
def tyOf (P : Program) : Nat → TypeId → Option (List Ty)
  | 0, _ => none
  | d + 1, t => match P.underlying t with
    | some (.int .i64) => some [.int]
    | some (.float .f32) => some [.f32]
    | some .bool => some [.bool]
    | some (.slice e) => match tyOf P d e with
      | some es => if es.length = P.cellsOf e ∧ 0 < es.length then some [.sl e (P.cellsOf e) es] else none
      | none => none
    | some (.struct fs) => match fsTy P (tyOf P d) fs.toList 0 with
      | some ts => if ts.length = P.cellsOf t then some ts else none
      | none => none
    | _ => none
mutual
def Cl.typed : Ty → Cl → Prop
  | .int, c => ∃ n, c = .int n
  | .f32, c => ∃ b, c = .f32 b
  | .bool, c => ∃ b, c = .bool b
  | .sl e sz es, c => ∃ (a : Option Addr) (cap : Nat) (ls : List (List Cl)), c = .sl e sz ls.length a cap ls.flatten ∧ ∀ l ∈ ls, typedL es l
def typedL : List Ty → List Cl → Prop
  | [], l => l = []
  | t :: ts, l => ∃ c cs, l = c :: cs ∧ c.typed t ∧ typedL ts cs
end
theorem typedL_length : {ts : List Ty} → {l : List Cl} → typedL ts l → l.length = ts.length
  | [], l, h => by simp only [typedL] at h; subst h; rfl
  | t :: ts, l, h => by
    simp only [typedL] at h
    obtain ⟨c, cs, rfl, _, h2⟩ := h
    simp [typedL_length h2]
theorem typedL_append : {ts us : List Ty} → {l m : List Cl} → typedL ts l → typedL us m → typedL (ts ++ us) (l ++ m)
  | [], us, l, m, h, k => by simp only [typedL] at h; subst h; simpa using k
  | t :: ts, us, l, m, h, k => by
    simp only [typedL] at h
    obtain ⟨c, cs, rfl, h1, h2⟩ := h
    simp only [List.cons_append, typedL]
    exact ⟨c, cs ++ m, rfl, h1, typedL_append h2 k⟩
theorem flatten_get {L : Nat → List Cl} {sz : Nat} : ∀ (n : Nat), (∀ i, i < n → (L i).length = sz) → ∀ i j, i < n → j < sz → ((List.range n).map L).flatten[i * sz + j]? = (L i)[j]? := by
  intro n
  induction n with
  | zero => intro _ i j hi; omega
  | succ n ih =>
    intro hL i j hi hj
    have hlen : ∀ m, m ≤ n → ((List.range m).map L).flatten.length = m * sz := by
      intro m
      induction m with
      | zero => intro _; simp
      | succ m ihm =>
        intro hm
        rw [List.range_succ, List.map_append, List.flatten_append, List.length_append, ihm (by omega)]
        simp [hL m (by omega), Nat.add_mul]
    rw [List.range_succ, List.map_append, List.flatten_append]
    by_cases h : i < n
    · rw [List.getElem?_append_left (by rw [hlen n (Nat.le_refl _)]; exact Nat.lt_of_lt_of_le (show i * sz + j < (i + 1) * sz by rw [Nat.succ_mul]; omega) (Nat.mul_le_mul_right sz h))]
      exact ih (fun i hi => hL i (by omega)) i j h hj
    · obtain rfl : i = n := by omega
      rw [List.getElem?_append_right (by rw [hlen i (Nat.le_refl _)]; omega), hlen i (Nat.le_refl _), Nat.add_sub_cancel_left]
      simp
theorem flatten_len {L : Nat → List Cl} {sz : Nat} (n : Nat) (hL : ∀ i, i < n → (L i).length = sz) : ((List.range n).map L).flatten.length = n * sz := by
  induction n with
  | zero => simp
  | succ n ih =>
    rw [List.range_succ, List.map_append, List.flatten_append, List.length_append, ih (fun i hi => hL i (by omega))]
    simp [hL n (by omega), Nat.add_mul]

section
variable {H : Type} {enc : TypeId × Value → H} {P : Program} {w : World} {base : Nat} {held : Bool}
/-- the fields one after another -/
theorem fields_open {r : TypeId → Option (List Ty)} {m : Nat} {cs : List Value}
    (hr : ∀ t ts cs x, r t = some ts → DataW.trod enc P w base (fun _ => true) held m t cs = some x → ∃ l, vs l = cs ∧ AtL w l ∧ typedL ts l) :
    ∀ (fs : List Field) (off : Nat) (ts : List Ty), fsTy P r fs off = some ts → (∀ f ∈ fs, ∃ x, DataW.trod enc P w base (fun _ => true) held m f.type ((cs.drop f.offset).take (P.cellsOf f.type)) = some x) →
      ∃ l, vs l = (cs.drop off).take ts.length ∧ AtL w l ∧ typedL ts l := by
  intro fs
  induction fs with
  | nil =>
    intro off ts h _
    simp only [fsTy, Option.some.injEq] at h
    subst h
    exact ⟨[], by simp [vs], by simp [AtL], by simp [typedL]⟩
  | cons f fs ih =>
    intro off ts h hx
    simp only [fsTy] at h
    cases ha : r f.type with
    | none => simp [ha] at h
    | some a =>
      cases hb : fsTy P r fs (off + P.cellsOf f.type) with
      | none => simp [ha, hb] at h
      | some b =>
        simp only [ha, hb] at h
        split at h
        · rename_i hc
          simp only [Option.some.injEq] at h
          subst h
          obtain ⟨x, h1⟩ := hx f (List.mem_cons_self ..)
          obtain ⟨l, e1, a1, t1⟩ := hr _ _ _ _ ha h1
          obtain ⟨l2, e2, a2, t2⟩ := ih _ _ hb (fun g hg => hx g (List.mem_cons_of_mem _ hg))
          refine ⟨l ++ l2, ?_, AtL_append.2 ⟨a1, a2⟩, typedL_append t1 t2⟩
          rw [vs_append, e1, e2, hc.1, List.length_append, hc.2, List.take_add, List.drop_drop]
        · cases h
theorem opened : ∀ (d : Nat) (fuel : Nat) (t : TypeId) (ts : List Ty) (cs : List Value) (x : DataW H × List MemPlace), tyOf P d t = some ts → DataW.trod enc P w base (fun _ => true) held fuel t cs = some x →
    ∃ l, vs l = cs ∧ AtL w l ∧ typedL ts l := by
  intro d
  induction d with
  | zero => intro fuel t ts cs x h; simp [tyOf] at h
  | succ d ih =>
    intro fuel t ts cs x h hx
    simp only [tyOf] at h
    split at h
    · rename_i hu
      cases h
      obtain ⟨n, e0, _, _⟩ := DataW.trod_int hu hx
      subst e0
      exact ⟨[.int n], rfl, by simp [AtL, Cl.At], by simp [typedL, Cl.typed]⟩
    · rename_i hu
      cases h
      have hc : ∃ v, cs = [v] := by
        cases fuel with
        | zero => simp [DataW.trod] at hx
        | succ n =>
          simp only [DataW.trod, hu] at hx
          split at hx <;> simp_all
      obtain ⟨v, rfl⟩ := hc
      obtain ⟨b, rfl, hb⟩ := trod_float hu hx
      exact ⟨[.f32 b], rfl, by simp only [AtL, Cl.At, and_true]; exact hb, by simp [typedL, Cl.typed]⟩
    · rename_i hu
      cases h
      have hc : ∃ b, cs = [.bool b] := by
        cases fuel with
        | zero => simp [DataW.trod] at hx
        | succ n =>
          simp only [DataW.trod, hu] at hx
          split at hx <;> simp_all
      obtain ⟨b, rfl⟩ := hc
      exact ⟨[.bool b], rfl, by simp [AtL, Cl.At], by simp [typedL, Cl.typed]⟩
    · rename_i e hu
      cases he : tyOf P d e with
      | none => simp [he] at h
      | some es =>
        simp only [he] at h
        split at h
        · rename_i hes
          obtain ⟨hes, hes0⟩ := hes
          cases h
          rcases open_slice hu hx with ⟨rfl, _⟩ | ⟨a, len, cap, m, n, D, Pl, rfl, _, hl, hm, hmm, _, hel⟩
          · refine ⟨[.sl e (P.cellsOf e) 0 none 0 []], rfl, ?_, ?_⟩
            · simp [AtL, Cl.At]
            · simp only [typedL, Cl.typed]
              exact ⟨_, [], rfl, ⟨none, 0, [], rfl, fun l hl => by cases hl⟩, rfl⟩
          · simp only [if_true] at hmm
            subst hmm
            obtain ⟨L, hL⟩ := choose_lt (α := List Cl) (n := len) (p := fun i l => w.cells? base (a.add (i * P.cellsOf e)) (P.cellsOf e) = some (vs l) ∧ AtL w l ∧ typedL es l) (fun i hi => by
              obtain ⟨cs', h1, h2⟩ := hel i (by omega)
              obtain ⟨l, e1, a1, t1⟩ := ih _ _ _ _ _ he h2
              exact ⟨l, by rw [e1]; exact h1, a1, t1⟩)
            have hlen : ∀ i, i < len → (L i).length = P.cellsOf e := fun i hi => by rw [typedL_length (hL i hi).2.2, hes]
            refine ⟨[.sl e (P.cellsOf e) len (some a) m ((List.range len).map L).flatten], rfl, ?_, ?_⟩
            · simp only [AtL, Cl.At, and_true]
              refine ⟨⟨hl, hm, flatten_len len hlen, ?_⟩, AtL_iff.2 ?_⟩
              · by_cases h0 : len = 0
                · exact .inl h0
                · right
                  have hpos : 0 < P.cellsOf e := by omega
                  have hcell : ∀ i j, i < len → j < P.cellsOf e → w.cell? ((a.add (i * P.cellsOf e)).add j) = (vs (L i))[j]? := fun i j hi hj => (World.cells?_some (hL i hi).1).2.2 j hj
                  obtain ⟨b, off, spot⟩ := a
                  have c0 := hcell 0 0 (by omega) hpos
                  rw [Nat.zero_mul] at c0
                  have hz : (vs (L 0))[0]? = some ((vs (L 0))[0]'(by rw [vs_length, hlen 0 (by omega)]; exact hpos)) := List.getElem?_eq_getElem _
                  rw [hz] at c0
                  have hspot : spot = none := by simpa [Addr.add] using World.cell?_spot c0
                  subst hspot
                  refine ⟨b, off, rfl, by simpa [Addr.add] using cell_block c0, fun i hi => ?_⟩
                  have hq : i / P.cellsOf e < len := Nat.div_lt_of_lt_mul (by rw [Nat.mul_comm]; exact hi)
                  have hr : i % P.cellsOf e < P.cellsOf e := Nat.mod_lt _ hpos
                  have h1 := hcell _ _ hq hr
                  rw [add_plain, add_plain, Nat.add_assoc, Nat.div_add_mod'] at h1
                  rw [h1]
                  have h2 := flatten_get len hlen _ _ hq hr
                  rw [Nat.div_add_mod'] at h2
                  simp only [vs, List.getElem?_map, h2]
              · intro c hc
                obtain ⟨l, hl', hc'⟩ := List.mem_flatten.1 hc
                obtain ⟨i, hi, rfl⟩ := List.mem_map.1 hl'
                exact AtL_iff.1 (hL i (by simpa using hi)).2.1 c hc'
            · simp only [typedL, Cl.typed]
              refine ⟨_, [], rfl, ⟨some a, m, (List.range len).map L, by simp, ?_⟩, rfl⟩
              intro l hl'
              obtain ⟨i, hi, rfl⟩ := List.mem_map.1 hl'
              exact (hL i (by simpa using hi)).2.2
        · cases h
    · rename_i fs hu
      cases hf : fsTy P (tyOf P d) fs.toList 0 with
      | none => simp [hf] at h
      | some us =>
        simp only [hf] at h
        split at h
        · rename_i hlen
          cases h
          obtain ⟨xs, m, _, _, hl, hxs, hel⟩ := DataW.trod_struct hu hx
          obtain ⟨l, e1, a1, t1⟩ := fields_open (cs := cs) (m := m) (fun t ts cs x ht hx => ih m t ts cs x ht hx) fs.toList 0 ts hf (fun f hf => by
            obtain ⟨i, hi, rfl⟩ := List.mem_iff_getElem.1 hf
            have hi' : i < fs.size := by simpa using hi
            have := hel i fs[i] (by simp [hi'])
            rw [List.getElem?_eq_getElem (by omega)] at this
            exact ⟨_, by simpa using this⟩)
          refine ⟨l, ?_, a1, t1⟩
          rw [e1, List.drop_zero, hlen, ← hl, List.take_length]
        · cases h
    · cases h
end
/-- a list of records -/
theorem typed_list {R : Type} (f : R → List Cl) {es : List Ty} (dec : ∀ l, typedL es l → ∃ r, l = f r) : ∀ ls : List (List Cl), (∀ l ∈ ls, typedL es l) → ∃ rs : List R, ls.flatten = rs.flatMap f ∧ rs.length = ls.length := by
  intro ls
  induction ls with
  | nil => intro _; exact ⟨[], rfl, rfl⟩
  | cons l ls ih =>
    intro h
    obtain ⟨r, rfl⟩ := dec l (h l (List.mem_cons_self ..))
    obtain ⟨rs, e, hl⟩ := ih (fun m hm => h m (List.mem_cons_of_mem _ hm))
    exact ⟨r :: rs, by simp [e], by simp [hl]⟩
theorem typed_f32s {c : Cl} (h : c.typed (.sl 52 1 [.f32])) : ∃ a cap ys, c = flC a cap ys := by
  simp only [Cl.typed] at h
  obtain ⟨a, cap, ls, rfl, hl⟩ := h
  obtain ⟨ys, e, hn⟩ := typed_list (fun y : Nat => [Cl.f32 y]) (es := [.f32]) (fun l h => by
    simp only [typedL, Cl.typed] at h
    obtain ⟨c, cs, rfl, ⟨b, rfl⟩, rfl⟩ := h
    exact ⟨b, rfl⟩) ls hl
  have hm : ∀ ys : List Nat, ys.flatMap (fun y => [Cl.f32 y]) = ys.map Cl.f32 := fun ys => by
    induction ys with
    | nil => rfl
    | cons y ys ih => rw [List.flatMap_cons, ih]; rfl
  have e' : ls.flatten = ys.map Cl.f32 := by rw [e, hm]
  exact ⟨a, cap, ys, by rw [e', ← hn]; rfl⟩
end Go.Proofs.Ytdgoladbkaldkaa
