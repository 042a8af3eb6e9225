/-
  Lists of lists of floats one behind the other: slices.Grow from nothing, and slices.Concat of lists that can be read. Conditions: at most 4096 numbers in all.
-/
import Derived.Test.YtpobdigmjfapbaaDoorSS
import Derived.Test.YtpobdigmjfapbaaDoorPar
import Derived.Lib.AppendZerosOnto
import Derived.Lib.SliceRun
namespace Go.Proofs.YtpobdigmjfapbaaDoor
open Go.RowKit Go.Deep Go.WideShapes Go.ChangeShapes
set_option linter.unusedVariables false

def catS (ls : List FlA) : List Nat := ls.flatMap FlA.z
def catU (ls : List FlA) (k : Nat) : List Nat := catS (ls.take k)
theorem catU_succ {ls : List FlA} {k : Nat} {x : FlA} (h : ls[k]? = some x) : catU ls (k + 1) = catU ls k ++ x.z := by
  unfold catU catS
  rw [List.take_add_one, h, List.flatMap_append]
  simp
theorem catU_le (ls : List FlA) (k : Nat) : (catU ls k).length ≤ (catS ls).length := by
  have h : catS ls = catU ls k ++ catS (ls.drop k) := by
    unfold catU catS
    rw [← List.flatMap_append, List.take_append_drop]
  rw [h, List.length_append]
  omega
theorem catU_all {ls : List FlA} {n : Nat} (h : ls.length = n) : catU ls n = catS ls := by unfold catU; rw [← h, List.take_length]
set_option maxRecDepth 20000 in
set_option maxHeartbeats 1000000 in
theorem c_growBig (n : Nat) (w : World) (h1 : 1 ≤ n) (hn : n ≤ 4096) :
    Calls Tryd.prog 138 #[.slice none 0 0, .int .i64 n] w fun e w' => ∃ b c, e = .returned (.slice b 0 c) ∧ OwnF w' w.heap.size b c [] ∧ Below w.heap.size w w' := by
  obtain ⟨i0, hi, hz0, hz1, hz2⟩ := info_parts info_f32
  have g1 : ¬ ((n : Int) < 0) := by omega
  have g2 : (n : Int) > 0 := by omega
  have hrz : ∀ ty, (Builtin.append_ #[24, 3] ty #[.slice none 0 0, .int .i64 (n : Int)]).run Tryd.prog w =
      .ok (.slice (some ⟨w.heap.size, 0, none⟩) n (grownCap w n 0 31)) (w.drew.alloc (.cells (#[] ++ Builtin.zeroCells (Value.cells (.float .f32 0)) n ++ Builtin.zeroCells (Value.cells (.float .f32 0)) (grownCap w n 0 31 - n)) 31)) := fun ty => by
    have h := Lib.run_append_grow_zeros w 24 3 ty 31 i0 (.float .f32 0) .i64 .i64 Tryd.underlying24 Tryd.underlying3 hi hz0 none 0 0 [] (run_firstCells_none w.drew i0.size 0 0 0) n (by omega) (by rw [hz1]; decide) (by omega) (by omega)
      (by rw [hz2]; omega) (by rw [hz2, Nat.zero_add]; exact growslice_fits (by omega) (by omega))
    rw [Nat.zero_add] at h
    exact h
  have hGn : n ≤ grownCap w n 0 31 := grownCap_ge w _ _ _
  obtain ⟨G, hG⟩ : ∃ G, grownCap w n 0 31 = G := ⟨_, rfl⟩
  have hG63 : G ≤ maxLen := by rw [← hG]; exact grownCap_le_maxLen w n 0 _ (by unfold maxLen; omega)
  rw [hG] at hrz hGn
  have hGm : G ≤ 9223372036854775807 := by unfold maxLen at hG63; omega
  have HGM := Lib.hid hG63
  obtain ⟨cs, hcs⟩ : ∃ cs, (#[] ++ Builtin.zeroCells (Value.cells (.float .f32 0)) n ++ Builtin.zeroCells (Value.cells (.float .f32 0)) (G - n)) = cs := ⟨_, rfl⟩
  have hsz : cs.size = G := by rw [← hcs]; simp [Builtin.zeroCells, Value.cells]; omega
  rw [hcs] at hrz
  have HSZ := Lib.hid hsz
  clear hG hcs hsz hG63 hi hz0 hz1 hz2
  go_enter Tryd.func138, Tryd.ntmps138
  go_wp2_with (at_builtin; refine Lib.wpList_append_run _ rfl _ _ _ _ rfl _ _ rfl rfl _ _ (hrz _) ?_)
  go_ret
  refine ⟨some ⟨w.heap.size, 0, none⟩, G, rfl, ⟨⟨rfl, .inr ⟨w.heap.size, G, cs, rfl, Nat.le_refl _, ?_, Nat.zero_le _, HGM.out, by rw [HSZ.out, Nat.mul_one], by simp⟩⟩, fun _ h => by cases h⟩, ((Below.refl _ _).drew).alloc (Nat.le_refl _) _⟩
  exact heap_alloc_new _ _
theorem c_growNil (w : World) : Calls Tryd.prog 138 #[.slice none 0 0, .int .i64 0] w fun e w' => e = .returned (.slice none 0 0) ∧ w = w' := by
  go_enter Tryd.func138, Tryd.ntmps138
  go_wp2_with fail
  go_ret
  exact ⟨rfl, rfl⟩
theorem c_growAny (n : Nat) (w : World) (hn : n ≤ 4096) :
    Calls Tryd.prog 138 #[.slice none 0 0, .int .i64 n] w fun e w' => ∃ b c, e = .returned (.slice b 0 c) ∧ OwnF w' w.heap.size b c [] ∧ Below w.heap.size w w' := by
  by_cases h : n = 0
  · subst h
    refine (c_growNil w).mono ?_
    rintro e w' ⟨rfl, rfl⟩
    exact ⟨none, 0, rfl, ⟨World.ownsRow_nil _ _ _ _, fun _ h => by cases h⟩, Below.refl _ _⟩
  · exact c_growBig n w (by omega) hn
def CatSRel (ls : List FlA) (n : Nat) (w : World) (s i : Value) (wr : World) : Prop :=
  ∃ (k : Nat) (b : Option Addr) (cp : Nat), k ≤ n ∧ i = .int .i64 k ∧ s = .slice b (catU ls k).length cp ∧ OwnF wr w.heap.size b cp (catU ls k) ∧ Below w.heap.size w wr
set_option maxRecDepth 20000 in
set_option maxHeartbeats 2000000 in
theorem c_concatS (g : Option Addr) (cap n : Nat) (ls : List FlA) (w : World) (h : SSAt w g n cap ls) (ht : (catS ls).length ≤ 4096) :
    Calls Tryd.prog 112 #[.slice g n cap] w (RetFs (catS ls) w) := by
  obtain ⟨i0, hi, hz0, hz1, hz2⟩ := info_parts info_f32
  have HI := Lib.hid hi
  have HZ0 := Lib.hid hz0
  have HZ1 := Lib.hid hz1
  have HZ2 := Lib.hid hz2
  have H := Lib.hid h
  have HT := Lib.hid ht
  have HN := Lib.hid h.1
  have hnm : n ≤ 9223372036854775807 := by have h1 := h.2.1; have h2 := h.2.2.1; unfold maxLen at h2; omega
  clear h ht hi hz0 hz1 hz2
  go_enter Tryd.func112, Tryd.ntmps112
  go_wp2_with fail
  go_loop [3, 11] (fun s i => ∃ k : Nat, k ≤ n ∧ i = .int .i64 k ∧ s = .int .i64 (((catU ls k).length : Nat) : Int)) (fun _ i => n - (intOf i).toNat)
  case atStart => exact ⟨0, Nat.zero_le _, rfl, rfl⟩
  case round =>
    obtain ⟨k, hk, rfl, rfl⟩ := hrel
    by_cases hlt : k < n
    · have hlt' : (k : Int) < (n : Int) := by omega
      obtain ⟨b, off, z, a, c, rfl, hbk, hx, q, f⟩ := H.out.one hlt
      have HS := Lib.hid (catU_succ hx)
      have hle := catU_le ls (k + 1)
      rw [catU_succ hx, List.length_append] at hle
      dsimp only at hle
      have hTT := HT.out
      obtain ⟨P, hP⟩ : ∃ P, (catU ls k).length = P := ⟨_, rfl⟩
      have HP := Lib.hid hP
      rw [hP] at hle ⊢
      have hz : z.length ≤ 4096 := by omega
      have hP4 : P ≤ 4096 := by omega
      have q1 : ¬ ((P : Int) + (z.length : Int) < 0) := by omega
      clear hx f hP hle hTT
      go_wp2_with fail
      go_round
      case rel => exact ⟨k + 1, by omega, by go_num, by rw [HS.out, List.length_append, HP.out]; go_num⟩
      case measure => simp [intOf]; omega
    · obtain rfl : k = n := by omega
      rw [catU_all HN.out]
      obtain ⟨P, hP⟩ : ∃ P, (catS ls).length = P := ⟨_, rfl⟩
      have HP := Lib.hid hP
      rw [hP]
      have hp2 : P ≤ 4096 := by rw [← hP]; exact HT.out
      clear hP
      go_wp2_with fail
      refine (c_growAny P _ hp2).mono ?_
      rintro e w1 ⟨b, c, rfl, hf, hb⟩
      have HF := Lib.hid hf
      have HB := Lib.hid hb
      clear hf hb
      go_wp2_with fail
      go_loopw [6, 27] (fun s i wr => CatSRel ls k w s i wr) (fun _ i _ => k - (intOf i).toNat)
      case atStart => exact ⟨0, b, c, Nat.zero_le _, rfl, rfl, HF.out, HB.out⟩
      case round =>
        obtain ⟨j, b, cp, hj, rfl, rfl, ho, hbl⟩ := hrel
        have HO := Lib.hid ho
        have HL := Lib.hid hbl
        clear ho hbl
        by_cases hlt : j < k
        · have hlt' : (j : Int) < (k : Int) := by omega
          obtain ⟨gb, off, z, a, c, rfl, hbk, hx, q, f⟩ := (H.out.kept HL.out).one hlt
          have HSUC := Lib.hid (catU_succ hx)
          have hle := catU_le ls (j + 1)
          rw [catU_succ hx, List.length_append] at hle
          dsimp only at hle
          have hTT := HT.out
          have A1 := Lib.hid (show (catU ls j).length + z.length ≤ 4096 by simpa using Nat.le_trans hle hTT)
          have HFX := Lib.hid f
          obtain ⟨tl, htl⟩ : ∃ tl, catU ls j = tl := ⟨_, rfl⟩
          rw [htl] at HO HSUC A1 ⊢
          clear hx f htl hle hTT
          go_wp2_with (at_builtin; refine wpList_append_any _ rfl (.tmp 31) (.tmp 32) _ rfl w.heap.size 31 i0 _ 1 4 Tryd.underlying24 HI.out HZ0.out HZ1.out HZ2.out rfl (by omega) (.slice b tl.length cp) tl.length _ rfl HO.out.1 _ a z.length c _ rfl HFX.out.reads (ones_f32 _) ?c1 ?c2 HL.out.size ?_)
          case c1 => have := A1.out; unfold maxLen; omega
          case c2 => have := A1.out; omega
          intro v' w5 hown hgr hat
          obtain ⟨a', c', rfl⟩ := ownsRow_slice hown
          have HNX := Lib.hid (app_next HO.out HFX.out.2.2.2.1 hown hgr (Nat.le_refl _) HL.out)
          clear hown hgr hat q
          go_wp2_with fail
          go_roundw
          case rel =>
            obtain ⟨t1, t2⟩ := HNX.out
            refine ⟨j + 1, a', c', by omega, by go_num, ?_, ?_, t2⟩
            · rw [HSUC.out, List.length_append]
            · rw [HSUC.out]; exact t1
          case measure => simp [intOf]; omega
        · obtain rfl : j = k := by omega
          rw [catU_all HN.out] at HO ⊢
          go_wp2_with fail
          go_ret
          exact ⟨b, cp, rfl, HO.out, HL.out⟩
end Go.Proofs.YtpobdigmjfapbaaDoor
