/-
  ReduceLists: what the program answers, over any way to add. Conditions: the numbers can be read.
-/
import Derived.Test.YtpdgpoonblldgaaRde
namespace Go.Proofs.Ytpdgpoonblldgaa
open Go.RowKit Go.Deep Go.WideShapes Go.ChangeShapes
set_option linter.unusedVariables false
set_option linter.unusedSimpArgs false

theorem okL_facts {zz : List (List Nat)} (h : okL zz = true) : 1 ≤ zz.length ∧ zz.length ≤ 8 ∧ (zz.getD 0 []).length ≤ 512 ∧ ∀ z ∈ zz, z.length = (zz.getD 0 []).length := by
  simp only [okL, Bool.and_eq_true, decide_eq_true_eq, List.all_eq_true] at h
  exact ⟨h.1.1, h.1.2, h.2.1, h.2.2⟩
set_option maxRecDepth 20000 in
set_option maxHeartbeats 2000000 in
theorem c_iReduceBy (kind : Int) (F : FuncId) (f : Nat → List Nat → Nat) (hR : ∀ W : World, Calls Try.prog 76 #[.int .i64 kind] W fun e w' => e = .returned (.tuple #[.func (.func F) #[] #[], .bool true]) ∧ W = w')
    (hE : ∀ (xs : Array Value) (wr : World), (callFunc F xs).run Try.prog wr = .ok (.enter F xs) wr)
    (hF : ∀ (zs : List Nat) (a : Option Addr) (n cap p : Nat) (wr : World), IsFloats .f32 wr a n cap zs → 1 ≤ n → n ≤ 8 → p ≤ 1048576 → Calls Try.prog F #[.slice a n cap, .int .i64 p] wr (RetX (f p (zs.map (canon .f32))) wr))
    (g : Option Addr) (n cap : Nat) (ls : List FlA) (w : World) (h : SSAt w g n cap ls) (hok : okL (ls.map FlA.z) = true) :
    Calls Try.prog 25 #[.int .i64 kind, .slice g n cap] w (RetL true ((List.range ((ls.map FlA.z).getD 0 []).length).map fun p => f p (atV (ls.map FlA.z) p)) w) := by
  obtain ⟨f1, f2, f3, f4⟩ := okL_facts hok
  rw [List.length_map, h.1] at f1 f2
  obtain ⟨b, off, z0, a0, c0, rfl, hbk, hx, q0, hf⟩ := h.one (show 0 < n by omega)
  have hz0 : ((ls.map FlA.z).getD 0 []) = z0 := by
    cases ls with
    | nil => simp at hx
    | cons y t => simp at hx; simp [hx]
  rw [hz0] at f3 f4 ⊢
  rw [Nat.add_zero] at q0
  have HS := Lib.hid h
  have HOK := Lib.hid hok
  have HRO := Lib.hid hR
  have HFF := Lib.hid hF
  have HALL := Lib.hid (show ∀ x ∈ ls, x.z.length = z0.length from fun x hx => f4 x.z (List.mem_map.2 ⟨x, hx, rfl⟩))
  have HBK := Lib.hid hbk
  have HQ := Lib.hid q0
  obtain ⟨L, hL⟩ : ∃ L, z0.length = L := ⟨_, rfl⟩
  have HLL := Lib.hid hL
  rw [hL] at f3 HALL HQ ⊢
  have i3 : (0 : Int) < (n : Int) := by omega
  have HL3 := Lib.hid f3
  have i6 : (L : Int) ≤ 512 := by omega
  have HN := Lib.hid (And.intro f1 f2)
  obtain ⟨i0, hi, hz0, hz1, hz2⟩ := info_parts info_f32
  have HI := Lib.hid hi
  have HZ0 := Lib.hid hz0
  have HZ1 := Lib.hid hz1
  have HZ2 := Lib.hid hz2
  clear hi hz0 hz1 hz2 h hok hR hF hx q0 hf hbk f3 f4 hL f1 f2
  go_enter Try.func25, Try.ntmps25
  go_wp2_with (first | (go_at_call 76; refine (HRO.out _).mono ?_; rintro e w1 ⟨rfl, rfl⟩) | (go_at_call 77; refine (c_canReduce _ n cap ls _ HS.out).mono ?_; rw [HOK.out]; rintro e w2 ⟨rfl, bl⟩; have B2 := Lib.hid bl; have q0 := (B2.out.cell (p := ⟨b, off, none⟩) HBK.out).trans HQ.out; clear bl) | (at_make; refine wpList_make_full _ rfl _ _ 25 rfl w.heap.size 67 i0 (.float .f32 0) 1 Try.underlying25 HI.out HZ0.out HZ1.out _ _ _ _ L rfl rfl rfl rfl ?c1 ?c2 ?c3 ?_))
  case c1 => rw [HZ2.out]; have := HL3.out; omega
  case c2 => have := HL3.out; unfold maxLen; omega
  case c3 => exact B2.out.size
  intro w3 hown hgrow
  have hb1 : Below w.heap.size w w3 := B2.out.grown hgrow B2.out.size (fun k h => by cases h)
  rw [toList_madeCells_one] at hown
  have HO := Lib.hid hown
  have HB := Lib.hid hb1
  have HGD := Lib.hid B2.out.size
  obtain ⟨gd, hgd⟩ : ∃ gd, w2.heap.size = gd := ⟨_, rfl⟩
  rw [hgd] at HO HGD
  rw [hgd]
  have HAT := Lib.hid (fun k => show atV (ls.map FlA.z) k = ls.map fun x => canon .f32 (x.z.getD k 0) by unfold atV; rw [List.map_map]; rfl)
  clear hown hb1 hgrow hgd q0
  go_wp2_with fail
  go_loopw [30] (fun i wr => FunRel (fun p => f p (atV (ls.map FlA.z) p)) L gd w i wr) (fun i _ => L - (intOf i).toNat)
  case atStart => exact ⟨0, [], Nat.zero_le _, rfl, rfl, by simpa [partF] using HO.out, (fun _ h => by cases h), rfl, HB.out⟩
  case round =>
    obtain ⟨k, ys, hk, rfl, hy, ho, ht, he, hbl⟩ := hrel
    have HY := Lib.hid hy
    have HO' := Lib.hid ho
    have HT := Lib.hid ht
    have HE := Lib.hid he
    have HL := Lib.hid hbl
    have hk0 : (0 : Int) ≤ (k : Int) := by omega
    clear hy ho ht he hbl
    by_cases hlt : k < L
    · have hlt' : (k : Int) < (L : Int) := by omega
      go_upto_region 8 with fail
      have al := (Below.refl wr.heap.size wr).alloc (Nat.le_refl _) (.cells #[.int .i64 k] 3)
      have KB := Lib.hid (Blk.new wr 3 #[.int .i64 k])
      have AL := Lib.hid al
      clear al
      generalize wr.alloc (.cells #[.int .i64 k] 3) = wb at KB AL ⊢
      have ngd : gd ≠ wr.heap.size := by have := HO'.out.lt gd rfl; omega
      have ngd' : wr.heap.size ≠ gd := fun e => ngd e.symm
      generalize wr.heap.size = pb at KB ngd ngd' ⊢
      go_wp2_with fail
      refine (c_eachOfS 79 #[.pointer (some ⟨pb, 0, none⟩)] (fun z => canon .f32 (z.getD k 0)) (some ⟨b, off, none⟩) n cap ls _ (HS.out.kept (Below.next HL.out AL.out)) (by have := HN.out.2; omega) (enters_of Try.func79 (by kernel_rfl) (by kernel_rfl))
        (fun z a c wx hm hb => c_red1 pb k a c z wx ((HS.out.kept (Below.next (Below.next HL.out AL.out) hb)).2.2.2.1 ⟨z, a, c⟩ hm) (by have := HALL.out ⟨z, a, c⟩ hm; simp only at this; omega) ((KB.out.below hb).cell 0))).mono ?_
      rintro e w5 ⟨ya, yc, yz, rfl, hyo, hyz, bl⟩
      have hyl : yz.length = n := by
        have e := congrArg List.length hyz
        rw [List.length_map, List.length_map, HS.out.1] at e
        exact e
      have HYF := Lib.hid hyo.isFloats
      have HYN := Lib.hid (show 1 ≤ yz.length ∧ yz.length ≤ 8 by rw [hyl]; exact HN.out)
      have HYZ := Lib.hid (show yz.map (canon .f32) = atV (ls.map FlA.z) k by rw [hyz, HAT.out])
      have A5 := Lib.hid (Below.next AL.out bl)
      have K5 := Lib.hid (KB.out.below bl)
      clear hyo hyz bl hyl
      go_wp2_with fail
      have p0 := K5.out.cell 0
      have pl := K5.out.lt
      have bd : Below w5.heap.size w5 w5.drew := (Below.refl _ _).drew
      have HYF2 := Lib.hid (HYF.out.kept bd)
      have HCA := Lib.hid (HFF.out yz ya yz.length yc k w5.drew HYF2.out HYN.out.1 HYN.out.2 (by omega))
      clear bd
      go_region_held3 (fun w' => w'.cell? ⟨pb, 0, none⟩ = some (.int .i64 (k : Int))) (go_keep)
        (first
          | (refine HCA.out.mono ?_
             rintro e w6 ⟨r, rfl, hr, hrl, hb⟩
             have HR := Lib.hid (hr.trans (congrArg (f k) HYZ.out))
             have HRL := Lib.hid hrl
             have b6 : Below w5.heap.size w5 w6 := ((Below.refl w5.heap.size w5).drew).trans hb
             have K6 := Lib.hid (K5.out.below b6)
             have A6 := Lib.hid (Below.next A5.out b6)
             clear hr hrl hb b6 p0 pl
             have p0 := K6.out.cell 0
             have pl := K6.out.lt
             obtain ⟨hfz, v0, hv0⟩ := fun_cell hlt HO'.out A6.out))
      go_wp2_with fail
      go_roundw
      case rel => exact fun_step HGD.out HY.out hlt HO'.out HT.out HE.out HL.out A6.out HRL.out HR.out
      case measure => simp [intOf]; omega
    · obtain rfl : k = L := by omega
      go_wp2_with fail
      go_ret2
      obtain ⟨a, cp, ys', e, o, m, bl⟩ := fun_end HY.out HO'.out HT.out HE.out HL.out
      cases e
      exact ⟨_, _, ys', rfl, o, m, bl⟩
end Go.Proofs.Ytpdgpoonblldgaa
