/-
  Tensors number by number: the model's loops, which append. Conditions: the tensor's numbers can be read.
-/
import Derived.Test.YtaonfaeinoackaaRow
import Derived.Deep.RegionLaw
import Derived.BigRegion
namespace Go.Proofs.Ytaonfaeinoackaa
open Go.RowKit Go.Deep Go.WideShapes Go.ChangeShapes

/-- a tensor alone is returned -/
def RetV (R C : Int) (zs : List Nat) (w : World) (e : Ending) (w' : World) : Prop :=
  ∃ a cap ys, e = .returned (.agg #[.int .i64 R, .int .i64 C, .slice a ys.length cap]) ∧ OwnF w' w.heap.size a cap ys ∧ ys.map (canon .f32) = zs ∧ Below w.heap.size w w'
/-- the tensor that a model's loop makes: its box at gb, k numbers so far; the result's own cell at w.heap.size -/
def Made (R C : Int) (f : Nat → Nat) (k gb : Nat) (w wr : World) : Prop :=
  ∃ (a : Option Addr) (cap : Nat) (ys : List Nat), w.heap.size < gb ∧ ys.length = k ∧ Blk wr gb 36 #[.int .i64 R, .int .i64 C, .slice a ys.length cap] ∧ OwnF wr w.heap.size a cap ys ∧ ys.map (canon .f32) = (List.range k).map f ∧ Below w.heap.size w wr ∧ Blk wr w.heap.size 36 #[.int .i64 0, .int .i64 0, .slice none 0 0]
def MadeAt (R C : Int) (f : Nat → Nat) (w : World) (s : Value) (wr : World) : Prop := ∃ gb, s = .pointer (some ⟨gb, 0, none⟩) ∧ Made R C f 0 gb w wr
def MadeRel (R C : Int) (f : Nat → Nat) (n gb : Nat) (w : World) (i : Value) (wr : World) : Prop := ∃ k : Nat, k ≤ n ∧ i = .int .i64 k ∧ Made R C f k gb w wr
theorem made_first (R C : Int) (f : Nat → Nat) (w : World) (T : TypeId) (hT : T = 23) :
    MadeAt R C f w (.pointer (some ⟨w.heap.size + 1, 0, none⟩)) (((w.alloc (.cells #[.int .i64 0, .int .i64 0, .slice none 0 0] 36)).alloc (.cells #[.int .i64 R, .int .i64 C, .slice (some ⟨w.heap.size + 1 + 1, 0, none⟩) 0 0] 36)).alloc (.cells #[] T)).drew := by
  subst hT
  refine ⟨_, rfl, some ⟨w.heap.size + 1 + 1, 0, none⟩, 0, [], by omega, rfl, ?_, ⟨?_, fun _ h => by cases h⟩, rfl, ?_, ?_⟩
  · have h := (Blk.new (w.alloc (.cells #[.int .i64 0, .int .i64 0, .slice none 0 0] 36)) 36 #[.int .i64 R, .int .i64 C, .slice (some ⟨w.heap.size + 1 + 1, 0, none⟩) 0 0]).below ((Below.refl _ _).alloc (Nat.le_refl _) (.cells #[] 23))
    simp only [World.size_alloc] at h
    exact h
  · have h := World.ownsRow_made (base := w.heap.size) (e := 23) (size := 1) ((w.alloc (.cells #[.int .i64 0, .int .i64 0, .slice none 0 0] 36)).alloc (.cells #[.int .i64 R, .int .i64 C, .slice (some ⟨w.heap.size + 1 + 1, 0, none⟩) 0 0] 36)) #[] 0 (by simp; omega) (by decide) rfl
    simp only [World.size_alloc] at h
    exact h
  · exact ((((Below.refl _ _).alloc (Nat.le_refl _) _).alloc (by simp) _).alloc (by simp; omega) _).drew
  · have h := (((Blk.new w 36 #[.int .i64 0, .int .i64 0, .slice none 0 0]).below ((Below.refl _ _).alloc (Nat.le_refl _) (.cells #[.int .i64 R, .int .i64 C, .slice (some ⟨w.heap.size + 1 + 1, 0, none⟩) 0 0] 36))).below ((Below.refl _ _).alloc (Nat.le_refl _) (.cells #[] 23)))
    exact h
theorem made_first' (R C : Int) (f : Nat → Nat) (w : World) (T : TypeId) (hT : T = 23) :
    MadeAt R C f w (.pointer (some ⟨w.heap.size + 1 + 1, 0, none⟩)) (((w.alloc (.cells #[.int .i64 0, .int .i64 0, .slice none 0 0] 36)).alloc (.cells #[] T)).alloc (.cells #[.int .i64 R, .int .i64 C, .slice (some ⟨w.heap.size + 1, 0, none⟩) 0 0] 36)).drew := by
  subst hT
  refine ⟨_, rfl, some ⟨w.heap.size + 1, 0, none⟩, 0, [], by omega, rfl, ?_, ⟨?_, fun _ h => by cases h⟩, rfl, ?_, ?_⟩
  · have h := (Blk.new ((w.alloc (.cells #[.int .i64 0, .int .i64 0, .slice none 0 0] 36)).alloc (.cells #[] 23)) 36 #[.int .i64 R, .int .i64 C, .slice (some ⟨w.heap.size + 1, 0, none⟩) 0 0])
    simp only [World.size_alloc] at h
    exact h
  · have h := (World.ownsRow_made (base := w.heap.size) (e := 23) (size := 1) (w.alloc (.cells #[.int .i64 0, .int .i64 0, .slice none 0 0] 36)) #[] 0 (by simp) (by decide) rfl).alloc (.cells #[.int .i64 R, .int .i64 C, .slice (some ⟨w.heap.size + 1, 0, none⟩) 0 0] 36)
    simp only [World.size_alloc] at h
    exact h
  · exact ((((Below.refl _ _).alloc (Nat.le_refl _) _).alloc (by simp) _).alloc (by simp; omega) _).drew
  · have h := (((Blk.new w 36 #[.int .i64 0, .int .i64 0, .slice none 0 0]).below ((Below.refl _ _).alloc (Nat.le_refl _) (.cells #[] 23))).below ((Below.refl _ _).alloc (Nat.le_refl _) (.cells #[.int .i64 R, .int .i64 C, .slice (some ⟨w.heap.size + 1, 0, none⟩) 0 0] 36)))
    exact h

theorem made_app {R C : Int} {f : Nat → Nat} {k gb : Nat} {w wr w' : World} {b a' : Option Addr} {cp cp' m v : Nat} {ys : List Nat} (hgb : w.heap.size < gb)
    (hb : Blk wr gb 36 #[.int .i64 R, .int .i64 C, .slice b ys.length cp]) (ho : OwnF wr w.heap.size b cp ys) (hl : Below w.heap.size w wr) (hr : Blk wr w.heap.size 36 #[.int .i64 0, .int .i64 0, .slice none 0 0])
    (he : ys.map (canon .f32) = (List.range k).map f) (hy : ys.length = k) (hv : v < 2 ^ 32) (hc : canon .f32 v = f k)
    (hown : w'.ownsRow w.heap.size 23 1 (.slice a' (ys.length + 1) cp') (ys.length + 1) (ys.map (Value.float .f32) ++ [.float .f32 v])) (hg : ((wr.drewN m).alloc (.cells #[.float .f32 v] 23)).grownBy w' (Value.ownBlock (.slice b ys.length cp))) :
    (w'.cell? ⟨gb, 2, none⟩ = some (.slice b ys.length cp) ∧ w'.frozen? ⟨gb, 2, none⟩ = false) ∧ Made R C f (k + 1) gb w (w'.setCell ⟨gb, 2, none⟩ (.slice a' (ys.length + 1) cp')) := by
  rw [ownBlock_slice] at hg
  have bw : Below wr.heap.size wr ((wr.drewN m).alloc (.cells #[.float .f32 v] 23)) := (below_drewN (Below.refl _ _) m).alloc (Nat.le_refl _) _
  have ho1 := ho.kept bw
  have hb2 := (hb.below bw).apart hg ho1 (by decide)
  have hr2 := (hr.below bw).apart hg ho1 (by decide)
  have hl2 : Below w.heap.size w w' := (hl.trans (bw.mono hl.size)).grown hg (Nat.le_trans hl.size bw.size) (fun g h => (ho1.lt g h).1)
  have st : w'.grownBy (w'.setCell ⟨gb, 2, none⟩ (.slice a' (ys.length + 1) cp')) (some gb) := ⟨rfl, rfl, rfl, by simp, fun k _ hk => Below.heap_setCell w' ⟨gb, 2, none⟩ _ k (fun e => hk (by simp [e]))⟩
  have ho2 : OwnF w' w.heap.size a' cp' (ys ++ [v]) := by
    refine ⟨by simpa using hown, fun y hy' => ?_⟩
    rcases List.mem_append.1 hy' with h | h
    · exact ho.2 y h
    · simp at h; subst h; exact hv
  refine ⟨⟨hb2.cell 2, hb2.frozen 2⟩, a', cp', ys ++ [v], hgb, by simp [hy], ?_, ho2.off st hb2 (by decide), ?_, hl2.setCell (Nat.le_of_lt hgb) _, hr2.off st (by omega)⟩
  · unfold Blk at hb2 ⊢
    simp [World.setCell, Array.getElem?_modify, hb2]
  · rw [List.map_append, he, List.range_succ, List.map_append]
    simp [hc]
theorem made_reads {wr : World} {m v : Nat} : Reads ((wr.drewN m).alloc (.cells #[.float .f32 v] 23)) (wr.heap.size + 1) 1 (some ⟨wr.heap.size, 0, none⟩) 1 [.float .f32 v] := by
  refine ⟨rfl, fun _ => ⟨_, rfl, by simp, fun j u hu => ?_⟩⟩
  rw [add_plain]
  have := (Blk.new (wr.drewN m) 23 #[.float .f32 v]).cell (0 + j)
  have e : (wr.drewN m).heap.size = wr.heap.size := rfl
  rw [e] at this
  rw [this, Nat.zero_add]
  simpa using hu
theorem made_own {B : Nat} {wr : World} {b : Option Addr} {cp m v : Nat} {ys : List Nat} (ho : OwnF wr B b cp ys) : ((wr.drewN m).alloc (.cells #[.float .f32 v] 23)).ownsRow B 23 1 (.slice b ys.length cp) ys.length (ys.map (Value.float .f32)) :=
  (ho.kept ((below_drewN (Below.refl _ _) m).alloc (Nat.le_refl _) _)).1
theorem made_base {w wr : World} {m v : Nat} (h : w.heap.size ≤ wr.heap.size) : w.heap.size ≤ ((wr.drewN m).alloc (.cells #[.float .f32 v] 23)).heap.size := by
  rw [World.size_alloc]; exact Nat.le_trans h (Nat.le_succ _)
theorem made_old {wr : World} {m v gb : Nat} {T : TypeId} {x y z : Value} (h : Blk wr gb T #[x, y, z]) : ((wr.drewN m).alloc (.cells #[.float .f32 v] 23)).cell? ⟨gb, 2, none⟩ = some z :=
  (h.below ((below_drewN (Below.refl _ _) m).alloc (Nat.le_refl _) _)).cell 2
theorem one_f32 (v : Nat) : ∀ u ∈ [Value.float .f32 v], u.oneCell' = true := by intro u hu; simp at hu; subst hu; rfl

/-- the end of a model's loop -/
theorem made_end {R C : Int} {f : Nat → Nat} {n : Nat} {w wr : World} {b : Option Addr} {cp : Nat} {ys : List Nat}
    (ho : OwnF wr w.heap.size b cp ys) (hl : Below w.heap.size w wr) (hr : Blk wr w.heap.size 36 #[.int .i64 0, .int .i64 0, .slice none 0 0]) (he : ys.map (canon .f32) = (List.range n).map f) :
    RetV R C ((List.range n).map f) w (.returned (.agg #[.int .i64 R, .int .i64 C, .slice b ys.length cp])) (((wr.setCell ⟨w.heap.size, 0, none⟩ (.int .i64 R)).setCell ⟨w.heap.size, 1, none⟩ (.int .i64 C)).setCell ⟨w.heap.size, 2, none⟩ (.slice b ys.length cp)) :=
  ⟨b, cp, ys, rfl, ho.off (store3 hr).2 hr (by decide), he, ((hl.setCell (Nat.le_refl _) _).setCell (Nat.le_refl _) _).setCell (Nat.le_refl _) _⟩

set_option maxHeartbeats 2000000 in
theorem c_l02Scale (g : Nat) (R C : Int) (x : Nat) (a : Option Addr) (n cap : Nat) (zs : List Nat) (w : World) (h : IsFloats .f32 w a n cap zs) (hn : n ≤ 256)
    (h0 : w.cell? ⟨g, 0, none⟩ = some (.int .i64 R)) (h1 : w.cell? ⟨g, 1, none⟩ = some (.int .i64 C)) (h2 : w.cell? ⟨g, 2, none⟩ = some (.slice a n cap)) :
    Calls Try.prog 72 #[.pointer (some ⟨g, 0, none⟩), .float .f32 x] w (RetV R C ((List.range n).map fun i => cop .mul .f32 (canon .f32 (zs.getD i 0)) (canon .f32 x)) w) := by
  have hg : g < w.heap.size := cell_block h0
  have hg1 : g < w.heap.size + 1 := by omega
  have hg2 : g < w.heap.size + 1 + 1 := by omega
  have hg3 : g < w.heap.size + 1 + 1 + 1 := by omega
  have HF := Lib.hid h
  have H2 := Lib.hid h2
  obtain ⟨i0, hi, hz0, hz1, hz2⟩ := info_parts info_f32
  have HI := Lib.hid hi
  have HZ0 := Lib.hid hz0
  have HZ1 := Lib.hid hz1
  have HZ2 := Lib.hid hz2
  clear h hi hz0 hz1 hz2
  go_enter Try.func72, Try.ntmps72
  go_upto_region 1 with fail
  go_cut [5] (fun s wx => MadeAt R C (fun i => cop .mul .f32 (canon .f32 (zs.getD i 0)) (canon .f32 x)) w s wx)
  case first =>
    go_region
    all_goals (go_wp2_with fail; go_meet; first | exact made_first _ _ _ _ _ rfl | exact made_first' _ _ _ _ _ rfl)
  case rest =>
    obtain ⟨gb, rfl, hm⟩ := hcut
    have HM := Lib.hid hm
    clear hm h0 h1 h2 hg1 hg2 hg3
    go_wp2_with fail
    go_loopw [6] (fun i wr => MadeRel R C (fun i => cop .mul .f32 (canon .f32 (zs.getD i 0)) (canon .f32 x)) n gb w i wr) (fun i _ => n - (intOf i).toNat)
    case atStart => exact ⟨0, Nat.zero_le _, rfl, HM.out⟩
    case round =>
      obtain ⟨k, hk, rfl, b, cp, ys, hgb, hy, hb, ho, he, hbl, hr⟩ := hrel
      have hk0 : (0 : Int) ≤ (k : Int) := by omega
      have HB := Lib.hid hb
      have HO := Lib.hid ho
      have HE := Lib.hid he
      have HL := Lib.hid hbl
      have HR := Lib.hid hr
      have HY := Lib.hid hy
      obtain ⟨q0, q1, q2, q3⟩ := tb hb
      obtain ⟨f0, f1, f2⟩ := tbf hb
      have p2 : wr.cell? ⟨g, 2, none⟩ = some (.slice a n cap) := (hbl.cell (p := ⟨g, 2, none⟩) hg).trans H2.out
      clear hb ho he hbl hr hy
      by_cases hlt : k < n
      · have hlt' : (k : Int) < (n : Int) := by omega
        rcases HF.out.2.2.2.2 with h' | ⟨ab, off, rfl, hab, hcell⟩
        · omega
        · have hx : wr.cell? ⟨ab, off + k, none⟩ = some (.float .f32 (zs.getD k 0)) := (HL.out.cell (p := ⟨ab, off + k, none⟩) hab).trans (hcell k hlt)
          obtain ⟨z, hz⟩ : ∃ z, zs.getD k 0 = z := ⟨_, rfl⟩
          rw [hz] at hx
          have HZ := Lib.hid hz
          clear hcell hz
          go_wp2_with fail
          have A1 := Lib.hid (show ys.length + 1 ≤ maxLen by have := HY.out; unfold maxLen; omega)
          have A2 := Lib.hid (show (ys.length + 1) * 4 ≤ 140737488355328 by have := HY.out; omega)
          have A3 := Lib.hid HL.out.size
          have A4 := Lib.hid (show canon .f32 (fval .mul .f32 z x wr.drew) = (fun i => cop .mul .f32 (canon .f32 (zs.getD i 0)) (canon .f32 x)) k by rw [canon_fval, ← HZ.out])
          have A5 := Lib.hid (show fval .mul .f32 z x wr.drew < 2 ^ 32 from fval_lt .mul .f32 z x wr.drew)
          have hq : ((wr.drewN (1 + fdr .mul .f32 z x)).alloc (.cells #[.float .f32 (fval .mul .f32 z x wr.drew)] 23)).cell? ⟨gb, 2, none⟩ = some (.slice b ys.length cp) := made_old HB.out
          go_region_law (refine step_append_any _ rfl (.tmp 27) (.tmp 37) 22 rfl w.heap.size 23 i0 (.float .f32 0) 1 4 Try.underlying22 HI.out HZ0.out HZ1.out HZ2.out rfl Nat.one_pos (.slice b ys.length cp) ys.length (ys.map (Value.float .f32)) rfl (made_own HO.out) (wr.heap.size + 1) (some ⟨wr.heap.size, 0, none⟩) 1 1 [.float .f32 (fval .mul .f32 z x wr.drew)] rfl made_reads (one_f32 _) A1.out A2.out (made_base A3.out) ?_; intro v' w' hown hgr hat; obtain ⟨a', c', rfl⟩ := ownsRow_slice hown; obtain ⟨⟨s1, s2⟩, hmade⟩ := made_app hgb HB.out HO.out HL.out HR.out HE.out HY.out A5.out A4.out hown hgr; have HMD := Lib.hid hmade; clear hown hgr hat hmade)
          all_goals
            go_wp2_with fail
            go_roundw
            case rel => exact ⟨k + 1, by omega, by go_num, HMD.out⟩
            case measure => simp [intOf]; omega
      · obtain rfl : k = n := by omega
        obtain ⟨v0, v1, v2, v3⟩ := tb HR.out
        obtain ⟨e0, e1, e2⟩ := tbf HR.out
        go_wp2_with fail
        exact bodyPost_ret (v := .agg #[.int .i64 R, .int .i64 C, .slice b ys.length cp]) (by simp [results, Try.results72, go_sem, v0, v1, v2]) rfl (made_end HO.out HL.out HR.out HE.out)
end Go.Proofs.Ytaonfaeinoackaa
