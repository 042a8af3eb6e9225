/-
  ReduceLists: lists of any lengths one behind the other, and the program's sums in a line and in a ring. Conditions: the numbers can be read.
-/
import Derived.Test.YtpdgpoonblldgaaRdf
import Derived.Test.YtpdgpoonblldgaaLists
namespace Go.Proofs.Ytpdgpoonblldgaa
open Go.RowKit Go.Deep Go.WideShapes Go.ChangeShapes
set_option linter.unusedVariables false
set_option linter.unusedSimpArgs false

def catZ (ls : List FlA) (k : Nat) : List Nat := (ls.take k).flatMap FlA.z
theorem catZ_succ {ls : List FlA} {k : Nat} {x : FlA} (h : ls[k]? = some x) : catZ ls (k + 1) = catZ ls k ++ x.z := by
  unfold catZ
  rw [List.take_add_one, h, List.flatMap_append]
  simp
theorem catZ_le (ls : List FlA) (k : Nat) : (catZ ls k).length ≤ (ls.flatMap FlA.z).length := by
  have h : ls.flatMap FlA.z = catZ ls k ++ (ls.drop k).flatMap FlA.z := by
    unfold catZ
    rw [← List.flatMap_append, List.take_append_drop]
  rw [h, List.length_append]
  omega
def CatZRel (ls : List FlA) (n B : Nat) (w : World) (s i : Value) (wr : World) : Prop :=
  ∃ (k : Nat) (b : Option Addr) (cp : Nat), k ≤ n ∧ i = .int .i64 k ∧ s = .slice b (catZ ls k).length cp ∧ OwnF wr B b cp (catZ ls k) ∧ Below w.heap.size w wr
set_option maxRecDepth 20000 in
set_option maxHeartbeats 1000000 in
theorem c_concatS (g : Option Addr) (n cap : Nat) (ls : List FlA) (w : World) (h : SSAt w g n cap ls) (h1 : 1 ≤ (ls.flatMap FlA.z).length) (h2 : (ls.flatMap FlA.z).length ≤ 256) (hn : n ≤ 256) :
    Calls Try.prog 112 #[.slice g n cap] w fun e w' => ∃ b c, e = .returned (.slice b (ls.flatMap FlA.z).length c) ∧ OwnF w' w.heap.size b c (ls.flatMap FlA.z) ∧ Below w.heap.size w w' := by
  have HS := Lib.hid h
  have HALL := Lib.hid (show catZ ls n = ls.flatMap FlA.z by unfold catZ; rw [List.take_of_length_le (by rw [h.1]; exact Nat.le_refl _)])
  have HLE := Lib.hid (fun k => Nat.le_trans (catZ_le ls k) h2)
  have H1 := Lib.hid h1
  obtain ⟨i0, hi, hz0, hz1, hz2⟩ := info_parts info_f32
  have HI := Lib.hid hi
  have HZ0 := Lib.hid hz0
  have HZ1 := Lib.hid hz1
  have HZ2 := Lib.hid hz2
  clear h h1 h2 hi hz0 hz1 hz2
  go_enter Try.func112, Try.ntmps112
  go_wp2_with fail
  go_loop [3, 11] (fun s i => ∃ k : Nat, k ≤ n ∧ i = .int .i64 k ∧ s = .int .i64 (((catZ ls k).length : Nat) : Int)) (fun _ i => n - (intOf i).toNat)
  case atStart => exact ⟨0, Nat.zero_le _, rfl, rfl⟩
  case round =>
    obtain ⟨k, hk, rfl, rfl⟩ := hrel
    have hkc := HLE.out k
    by_cases hlt : k < n
    · have hlt' : (k : Int) < (n : Int) := by omega
      obtain ⟨b, off, z, a, c, rfl, hbk, hx, q0, hf⟩ := HS.out.one hlt
      have hkn := HLE.out (k + 1)
      have hsu := congrArg List.length (catZ_succ hx)
      rw [List.length_append] at hsu
      obtain ⟨P, hP⟩ : ∃ P, (catZ ls k).length = P := ⟨_, rfl⟩
      obtain ⟨C, hC⟩ : ∃ C, z.length = C := ⟨_, rfl⟩
      have hsu2 : (catZ ls (k + 1)).length = P + C := by rw [hsu, ← hP, ← hC]
      have HSU := Lib.hid hsu2
      rw [hP] at hkc ⊢
      rw [hC] at q0
      have q1 : ¬ ((P : Int) + (C : Int) < 0) := by omega
      have q2 : (C : Int) ≤ 256 := by omega
      have q3 : (P : Int) ≤ 256 := by omega
      clear hx hf hkn hsu hP hC hsu2 hkc
      go_wp2_with fail
      go_round
      case rel => exact ⟨k + 1, by omega, by go_num, by rw [HSU.out]; go_num⟩
      case measure => simp [intOf]; omega
    · obtain rfl : k = n := by omega
      obtain ⟨P, hP⟩ : ∃ P, (catZ ls k).length = P := ⟨_, rfl⟩
      have hp1 : 1 ≤ P := by rw [← hP, HALL.out]; exact H1.out
      rw [hP] at hkc ⊢
      clear hP
      go_wp2_with fail
      refine (c_grow P _ hp1 hkc).mono ?_
      rintro e w1 ⟨b, c, rfl, hf, hb⟩
      have HF := Lib.hid hf
      have HB := Lib.hid hb
      clear hf hb
      go_wp2_with fail
      go_loopw [6, 27] (fun s i wr => CatZRel ls k w.heap.size w s i wr) (fun _ i _ => k - (intOf i).toNat)
      case atStart => exact ⟨0, b, c, Nat.zero_le _, rfl, rfl, HF.out, HB.out⟩
      case round =>
        obtain ⟨j, b, cp, hj, rfl, rfl, ho, hbl⟩ := hrel
        have HO := Lib.hid ho
        have HL := Lib.hid hbl
        clear ho hbl
        by_cases hlt : j < k
        · have hlt' : (j : Int) < (k : Int) := by omega
          obtain ⟨b0, off, z, a, c, rfl, hbk, hx, q0, hf⟩ := (HS.out.kept HL.out).one hlt
          have HSUC := Lib.hid (catZ_succ hx)
          have hkn := HLE.out (j + 1)
          rw [catZ_succ hx, List.length_append] at hkn
          have A1 := Lib.hid hkn
          have HRF := Lib.hid hf
          have HRD := Lib.hid hf.reads
          obtain ⟨tl, htl⟩ : ∃ tl, catZ ls j = tl := ⟨_, rfl⟩
          rw [htl] at HO HSUC A1 ⊢
          clear hx hf hkn htl
          go_wp2_with (at_builtin; refine wpList_append_any _ rfl (.tmp 31) (.tmp 32) _ rfl w.heap.size 67 i0 _ 1 4 Try.underlying25 HI.out HZ0.out HZ1.out HZ2.out rfl (by omega) (.slice b tl.length cp) tl.length _ rfl HO.out.1 _ _ z.length c _ rfl HRD.out (ones_f32 _) ?c1 ?c2 (HL.out.size) ?_)
          case c1 => have := A1.out; unfold maxLen; omega
          case c2 => have := A1.out; omega
          intro v' w5 hown hgr hat
          obtain ⟨a', c', rfl⟩ := ownsRow_slice hown
          have HT := Lib.hid (cat_next HO.out HRF.out.2.2.2.1 hown hgr rfl (Nat.le_refl _) HL.out)
          clear hown hgr hat
          go_wp2_with fail
          go_roundw
          case rel =>
            obtain ⟨t1, t2⟩ := HT.out
            refine ⟨j + 1, a', c', by omega, by go_num, ?_, ?_, t2⟩
            · rw [HSUC.out, List.length_append]
            · rw [HSUC.out]; exact t1
          case measure => simp [intOf]; omega
        · obtain rfl : j = k := by omega
          have hall := HALL.out
          rw [hall] at HO ⊢
          go_wp2_with fail
          go_ret
          exact ⟨b, cp, rfl, HO.out, HL.out⟩
theorem floats_some {w : World} {a : Option Addr} {n cap : Nat} {zs : List Nat} (h : IsFloats .f32 w a n cap zs) (h1 : 1 ≤ n) : ∃ b off, a = some ⟨b, off, none⟩ := by
  rcases h.2.2.2.2 with h' | ⟨b, off, rfl, _⟩
  · omega
  · exact ⟨b, off, rfl⟩
theorem x_addLine (zs : List Nat) (a : Option Addr) (n cap p : Nat) (wr : World) (h : IsFloats .f32 wr a n cap zs) (h1 : 1 ≤ n) (h8 : n ≤ 8) : Calls Try.prog 118 #[.slice a n cap, .int .i64 p] wr (RetX (lineV (zs.map (canon .f32))) wr) := by
  obtain ⟨b, off, rfl⟩ := floats_some h h1
  exact (c_addLine b off n cap zs (.int .i64 p) wr h h1 (by omega)).mono fun _ _ hh => RetX.of_RetF hh
end Go.Proofs.Ytpdgpoonblldgaa
