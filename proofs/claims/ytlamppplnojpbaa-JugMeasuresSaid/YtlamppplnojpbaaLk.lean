import Derived.Test.YtlamppplnojpbaaLi
import Derived.Laws.AppendOwn
import Derived.ChangeKeysEq
import Derived.Maps.RangeWalk
import Derived.Maps.OwnIn
import Derived.Maps.AppendAt
import Derived.RangeFuncNested
import Derived.RangeFuncBound
import Derived.RangeFuncCalls
import Derived.RangeFuncLeaves
import Derived.Shelf.Abstract
import Derived.Shelf.RegionOpen
import Derived.WalkKit
import Derived.WalkMore
import Derived.OwnWalkIn
import Derived.TacticsInMore
import Derived.LoopNIn
import Derived.LoopIn
import Derived.WalkSpells
import Derived.WalkLawsBesides
import Derived.BigQuiet
import Derived.Deep.QuietTactic
import Derived.Lib.Hide
import Derived.Deep.RegionHeld3
import Derived.StillTailTactics
import Derived.Deep.LoopGhost
import Derived.Maps.OwnSet
import Derived.Lib.IndexAny
import Derived.Sort.QuietThIn
import Derived.Sort.QuietTacIn
import Derived.Sort.BigQuietIn
import Derived.Laws.OwnMore
namespace Go.Proofs.Ytlamppplnojpbaa
open Go.RowKit Go.Shelf
attribute [local go_sem] Oper.semAt_some
set_option maxRecDepth 100000 in
set_option maxHeartbeats 1000000 in
theorem Pour_err (zs fs : List Int) (v u x : Value) (w : World) (hv : SlI w v zs) (hl : zs.length ≤ 1000000) (hu : SlI w u fs) (k : Int) (he : errA zs [fs] = k) (hk : k ≠ 0) :
    Calls Try.prog 26 #[v, u, x] w fun e w' => e = .returned (.tuple #[.slice none 0 0, .int .i64 0, .int .i64 k]) ∧ Below w.heap.size w w' := by
  have HC := Lib.hid (check1 hv hl hu)
  rw [he] at HC
  have hd : (k != 0) = true := by simp; exact hk
  obtain ⟨a1, c1, e1⟩ : ∃ a1 c1, u = .slice a1 fs.length c1 := by obtain ⟨a, c, h, _⟩ := hu; exact ⟨a, c, h⟩
  clear hv hu hl he hk
  generalize fs.length = k1 at *
  subst e1
  go_enter Try.func26, Try.ntmps26
  go_wp2_with fail
  refine HC.out.mono ?_
  rintro e w1 ⟨rfl, hb⟩
  have HB := Lib.hid hb
  clear hb HC
  go_wp2_with fail
  exact bodyPost_ret (v := .tuple #[.slice none 0 0, .int .i64 0, .int .i64 k]) (by simp [results, Try.results26, go_sem]) rfl ⟨rfl, HB.out⟩
theorem errA_bad {zs : List Int} (h : jugsB zs = false) (fss : List (List Int)) : errA zs fss = 20 := by unfold errA; rw [if_neg (by rw [h]; simp)]
theorem errA_fill {zs fs : List Int} {fss : List (List Int)} (h : jugsB zs = true) (hm : fs ∈ fss) (hf : fitsB zs fs = false) : errA zs fss = 1 := by
  unfold errA
  rw [if_pos h, if_neg]
  intro hall
  rw [List.all_eq_true] at hall
  rw [hall fs hm] at hf; cases hf
/-- what JugChecks asks of jugs or a filling that are none -/
structure Bads (x y : List Int) (k : Int) : Prop where
  one : errA x [y] = k
  two : ∀ z, errA x [z, y] = k
  two' : ∀ z, errA x [y, z] = k
  ne : k ≠ 0
theorem madeCells_one (z : Value) (hz : z.cells = #[z]) (n : Nat) : madeCells z.cells n = (List.replicate n z).toArray := by
  rw [hz]; unfold madeCells
  apply Array.ext
  · simp
  · intro i h1 h2
    simp [Nat.mod_one]

theorem make_one (t e : TypeId) (z : Value) (b : Nat) (ht : Try.prog.underlying t = some (.slice e)) (hi : (Try.prog.info? e).map (fun i => (i.zero, i.size, i.bytes)) = some (some z, 1, b)) (hz : z.cells = #[z]) (n : Nat) (hn : n * b ≤ 1000000000) (hn2 : n ≤ 1000000000) (w : World) :
    (Instr.makeSlice t (.int .i64 (n : Int)) (.int .i64 (n : Int))).run Try.prog w = .ok (.slice (some ⟨w.heap.size, 0, none⟩) n n) (w.alloc (.cells (List.replicate n z).toArray e)) := by
  obtain ⟨i0, h0, h1, h2, h3⟩ := info_parts hi
  have hb : (i0.bytes : Int) * (n : Int) ≤ 281474976710656 := by
    rw [h3]; have : ((b * n : Nat) : Int) ≤ 281474976710656 := by rw [Nat.mul_comm]; omega
    rwa [Int.natCast_mul] at this
  have h := run_make (P := Try.prog) w t e i0 z ht h0 h1 .i64 .i64 n n (by omega) (Int.le_refl _) hb (by omega)
  rw [h]; simp [h2, madeCells_one z hz]
theorem make_ints (n : Nat) (hn : n ≤ 1000000) (w : World) :
    (Instr.makeSlice 22 (.int .i64 (n : Int)) (.int .i64 (n : Int))).run Try.prog w = .ok (.slice (some ⟨w.heap.size, 0, none⟩) n n) (w.alloc (.cells (List.replicate n (.int .i64 0)).toArray 3)) :=
  make_one 22 3 (.int .i64 0) 8 Try.underlying22 info3 rfl n (by omega) (by omega) w
theorem sli_zero (w : World) (n : Nat) : SlI (w.alloc (.cells (List.replicate n (.int .i64 0)).toArray 3)) (.slice (some ⟨w.heap.size, 0, none⟩) n n) (List.replicate n 0) := by
  have h := sli_new w (List.replicate n 0)
  rw [List.map_replicate, List.length_replicate] at h
  exact h
set_option maxRecDepth 100000 in
set_option maxHeartbeats 8000000 in
theorem JugChecks_any (zs ms : List Int) (v u : Value) (w : World) (hv : SlI w v zs) (hu : SlI w u ms) (h1 : zs.length ≤ 9223372036854775807) (h2 : ms.length ≤ 9223372036854775807) :
    Calls Try.prog 3 #[v, u] w fun e w' => e = .returned (.bool true) ∧ Below w.heap.size w w' := by
  have HF1 := Lib.hid (few_any zs v 5 (by omega) w hv h1)
  have HF2 := Lib.hid (fun (W : World) (hb : Below w.heap.size w W) => few_any ms u 5 (by omega) W (hu.grow hb) h2)
  have hlx : (zs.take 5).length ≤ 5 := by rw [List.length_take]; omega
  have hly : (ms.take 5).length ≤ 5 := by rw [List.length_take]; omega
  generalize zs.take 5 = x at *
  generalize ms.take 5 = y at *
  clear hv hu h1 h2
  go_enter Try.func3, Try.ntmps3
  go_wp2_with fail
  refine HF1.out.mono ?_
  rintro e w1 ⟨xv, rfl, hx, hb1⟩
  have HB1 := Lib.hid hb1
  have HX1 := Lib.hid (sli_own hx)
  clear hb1 hx HF1
  go_wp2_with fail
  refine (HF2.out w1 HB1.out).mono ?_
  rintro e w2 ⟨yv, rfl, hy, hb2⟩
  have HB2 := Lib.hid (Below.andThen HB1.out hb2 (Nat.le_refl _))
  have HX2 := Lib.hid (HX1.out.grow hb2)
  have HY2 := Lib.hid (sli_own hy)
  clear hb2 hy HF2 HB1 HX1
  go_wp2_with fail
  refine (refJugs_any x xv w2 HX2.out (by omega)).mono ?_
  rintro e w3 ⟨rfl, hb3⟩
  have HB3 := Lib.hid (Below.andThen HB2.out hb3 (Nat.le_refl _))
  have HX3 := Lib.hid (HX2.out.grow hb3)
  have HY3 := Lib.hid (HY2.out.grow hb3)
  clear hb3 HB2 HX2 HY2
  have HCK := Lib.hid (Check_any x xv w3 HX3.out (by omega))
  cases hjug : jugsB x with
  | false =>
    have HBD := Lib.hid (show Bads x y 20 from ⟨errA_bad hjug _, fun _ => errA_bad hjug _, fun _ => errA_bad hjug _, by decide⟩)
    have HEM := Lib.hid (show errM x 1 = 20 by unfold errM; rw [if_neg (by rw [hjug]; simp)])
    have HJ := Lib.hid hjug
    have e20 : errJ x = 20 := by unfold errJ; rw [if_neg (by rw [hjug]; simp)]
    rw [e20] at HCK
    clear e20 hjug
    go_wp2_with fail
    refine (HCK.out).mono ?_
    rintro e w4 ⟨rfl, hb4⟩
    have HB4 := Lib.hid (Below.andThen HB3.out hb4 (Nat.le_refl _))
    have HX4 := Lib.hid (HX3.out.grow hb4)
    have HY4 := Lib.hid (HY3.out.grow hb4)
    clear hb4 HB3 HX3 HY3
    clear HCK
    go_wp2_with fail
    refine (Measure_err x xv 1 w4 HX4.out (by omega) 20 HEM.out (by decide)).mono ?_
    rintro e w5 ⟨rfl, hb5⟩
    have HB5 := Lib.hid (Below.andThen HB4.out hb5 (Nat.le_refl _))
    have HX5 := Lib.hid (HX4.out.grow hb5)
    have HY5 := Lib.hid (HY4.out.grow hb5)
    clear hb5 HB4 HX4 HY4
    go_wp2_with fail
    refine (Amounts_err x xv w5 HX5.out (by omega) HJ.out).mono ?_
    rintro e w6 ⟨rfl, hb6⟩
    have HB6 := Lib.hid (Below.andThen HB5.out hb6 (Nat.le_refl _))
    have HX6 := Lib.hid (HX5.out.grow hb6)
    have HY6 := Lib.hid (HY5.out.grow hb6)
    clear hb6 HB5 HX5 HY5
    go_wp2_with fail
    refine (Fewest_err x xv 1 w6 HX6.out (by omega) 20 HEM.out (by decide)).mono ?_
    rintro e w7 ⟨rfl, hb7⟩
    have HB7 := Lib.hid (Below.andThen HB6.out hb7 (Nat.le_refl _))
    have HX7 := Lib.hid (HX6.out.grow hb7)
    have HY7 := Lib.hid (HY6.out.grow hb7)
    clear hb7 HB6 HX6 HY6
    go_wp2_with fail
    have HCF := Lib.hid (CheckFilling_any x y xv yv w7 HX7.out HY7.out (by omega))
    rw [HBD.out.one] at HCF
    refine HCF.out.mono ?_
    rintro e w8 ⟨rfl, hb8⟩
    have HB8 := Lib.hid (Below.andThen HB7.out hb8 (Nat.le_refl _))
    have HX8 := Lib.hid (HX7.out.grow hb8)
    have HY8 := Lib.hid (HY7.out.grow hb8)
    clear hb8 HB7 HX7 HY7
    clear HCF
    obtain ⟨xa, xc, hxv⟩ : ∃ a c, xv = .slice a x.length c := by obtain ⟨a, c, h, _⟩ := HX8.out; exact ⟨a, c, h⟩
    subst hxv
    have hxl : x.length ≤ 5 := hlx
    have BZ := Below.al (Below.refl w8.heap.size w8) (Nat.le_refl _) (.cells (List.replicate x.length (.int .i64 0)).toArray 3)
    have HZ8 := Lib.hid (sli_zero w8 x.length)
    have HBz := Lib.hid (Below.andThen HB8.out BZ (Nat.le_refl _))
    have HXz := Lib.hid (HX8.out.grow BZ)
    have HYz := Lib.hid (HY8.out.grow BZ)
    clear BZ
    have hmk := make_ints x.length (by omega)
    go_wp2_with fail
    clear hmk
    refine (Steps_err x y _ _ false _ HXz.out (by omega) HYz.out 20 HBD.out.one (by decide)).mono ?_
    rintro e w9 ⟨rfl, hb9⟩
    have HB9 := Lib.hid (Below.andThen HBz.out hb9 (Nat.le_refl _))
    have HX9 := Lib.hid (HXz.out.grow hb9)
    have HY9 := Lib.hid (HYz.out.grow hb9)
    have HZ9 := Lib.hid (HZ8.out.grow hb9)
    clear hb9 HBz HXz HYz HB8 HX8 HY8
    go_wp2_with fail
    refine (Pour_err x y _ _ _ w9 HX9.out (by omega) HY9.out 20 HBD.out.one (by decide)).mono ?_
    rintro e w10 ⟨rfl, hb10⟩
    have HB10 := Lib.hid (Below.andThen HB9.out hb10 (Nat.le_refl _))
    have HX10 := Lib.hid (HX9.out.grow hb10)
    have HY10 := Lib.hid (HY9.out.grow hb10)
    have HZ10 := Lib.hid (HZ9.out.grow hb10)
    clear hb10 HB9 HX9 HY9
    go_wp2_with fail
    refine (Way_err x (List.replicate x.length 0) y _ _ _ true w10 HX10.out (by omega) HZ10.out HY10.out 20 (HBD.out.two _) (by decide)).mono ?_
    rintro e w11 ⟨rfl, hb11⟩
    have HB11 := Lib.hid (Below.andThen HB10.out hb11 (Nat.le_refl _))
    have HX11 := Lib.hid (HX10.out.grow hb11)
    have HY11 := Lib.hid (HY10.out.grow hb11)
    have HZ11 := Lib.hid (HZ10.out.grow hb11)
    clear hb11 HB10 HX10 HY10
    go_wp2_with fail
    refine (Reached_err x y _ _ false w11 HX11.out (by omega) HY11.out 20 HBD.out.one (by decide)).mono ?_
    rintro e w12 ⟨rfl, hb12⟩
    have HB12 := Lib.hid (Below.andThen HB11.out hb12 (Nat.le_refl _))
    have HX12 := Lib.hid (HX11.out.grow hb12)
    have HY12 := Lib.hid (HY11.out.grow hb12)
    have HZ12 := Lib.hid (HZ11.out.grow hb12)
    clear hb12 HB11 HX11 HY11
    go_wp2_with fail
    refine (Farthest_err x y _ _ true w12 HX12.out (by omega) HY12.out 20 HBD.out.one (by decide)).mono ?_
    rintro e w13 ⟨rfl, hb13⟩
    have HB13 := Lib.hid (Below.andThen HB12.out hb13 (Nat.le_refl _))
    have HX13 := Lib.hid (HX12.out.grow hb13)
    have HY13 := Lib.hid (HY12.out.grow hb13)
    have HZ13 := Lib.hid (HZ12.out.grow hb13)
    clear hb13 HB12 HX12 HY12
    go_wp2_with fail
    refine (Back_err x (List.replicate x.length 0) y _ _ _ w13 HX13.out (by omega) HZ13.out HY13.out 20 (HBD.out.two _) (by decide)).mono ?_
    rintro e w14 ⟨rfl, hb14⟩
    have HB14 := Lib.hid (Below.andThen HB13.out hb14 (Nat.le_refl _))
    have HX14 := Lib.hid (HX13.out.grow hb14)
    have HY14 := Lib.hid (HY13.out.grow hb14)
    have HZ14 := Lib.hid (HZ13.out.grow hb14)
    clear hb14 HB13 HX13 HY13
    go_wp2_with fail
    refine (Way_err x y (List.replicate x.length 0) _ _ _ false w14 HX14.out (by omega) HY14.out HZ14.out 20 (HBD.out.two' _) (by decide)).mono ?_
    rintro e w15 ⟨rfl, hb15⟩
    have HB15 := Lib.hid (Below.andThen HB14.out hb15 (Nat.le_refl _))
    have HX15 := Lib.hid (HX14.out.grow hb15)
    have HY15 := Lib.hid (HY14.out.grow hb15)
    have HZ15 := Lib.hid (HZ14.out.grow hb15)
    clear hb15 HB14 HX14 HY14
    go_wp2_with fail
    refine (awake_any _).mono ?_
    rintro e wq ⟨rfl, hb⟩
    have HE := Lib.hid (Below.andThen HB15.out hb (Nat.le_refl _))
    clear hb
    go_wp2_with fail
    go_ret
    exact ⟨rfl, HE.out⟩
  | true =>
    have HJ := Lib.hid hjug
    have e0 : errJ x = 0 := by unfold errJ; rw [if_pos hjug]
    rw [e0] at HCK
    clear e0 hjug
    go_wp2_with fail
    refine (HCK.out).mono ?_
    rintro e w4 ⟨rfl, hb4⟩
    have HB4 := Lib.hid (Below.andThen HB3.out hb4 (Nat.le_refl _))
    have HX4 := Lib.hid (HX3.out.grow hb4)
    have HY4 := Lib.hid (HY3.out.grow hb4)
    clear hb4 HB3 HX3 HY3
    clear HCK
    go_wp2_with fail
    have HRF := Lib.hid (refFilling_any x y xv yv w4 HX4.out HY4.out (by omega) (by omega))
    cases hfit : fitsB x y with
    | false =>
      rw [hfit] at HRF
      have HBD := Lib.hid (show Bads x y 1 from ⟨errA_fill HJ.out (by simp) hfit, fun _ => errA_fill HJ.out (by simp) hfit, fun _ => errA_fill HJ.out (by simp) hfit, by decide⟩)
      clear hfit
      refine (HRF.out).mono ?_
      rintro e w5 ⟨rfl, hb5⟩
      have HB5 := Lib.hid (Below.andThen HB4.out hb5 (Nat.le_refl _))
      have HX5 := Lib.hid (HX4.out.grow hb5)
      have HY5 := Lib.hid (HY4.out.grow hb5)
      clear hb5 HB4 HX4 HY4
      clear HRF
      go_wp2_with fail
      have HCF := Lib.hid (CheckFilling_any x y xv yv w5 HX5.out HY5.out (by omega))
      rw [HBD.out.one] at HCF
      refine HCF.out.mono ?_
      rintro e w6 ⟨rfl, hb6⟩
      have HB6 := Lib.hid (Below.andThen HB5.out hb6 (Nat.le_refl _))
      have HX6 := Lib.hid (HX5.out.grow hb6)
      have HY6 := Lib.hid (HY5.out.grow hb6)
      clear hb6 HB5 HX5 HY5
      clear HCF
      obtain ⟨xa, xc, hxv⟩ : ∃ a c, xv = .slice a x.length c := by obtain ⟨a, c, h, _⟩ := HX6.out; exact ⟨a, c, h⟩
      subst hxv
      have hxl : x.length ≤ 5 := hlx
      have BZ := Below.al (Below.refl w6.heap.size w6) (Nat.le_refl _) (.cells (List.replicate x.length (.int .i64 0)).toArray 3)
      have HZ6 := Lib.hid (sli_zero w6 x.length)
      have HBz := Lib.hid (Below.andThen HB6.out BZ (Nat.le_refl _))
      have HXz := Lib.hid (HX6.out.grow BZ)
      have HYz := Lib.hid (HY6.out.grow BZ)
      clear BZ
      have hmk := make_ints x.length (by omega)
      go_wp2_with fail
      clear hmk
      refine (Steps_err x y _ _ false _ HXz.out (by omega) HYz.out 1 HBD.out.one (by decide)).mono ?_
      rintro e w7 ⟨rfl, hb7⟩
      have HB7 := Lib.hid (Below.andThen HBz.out hb7 (Nat.le_refl _))
      have HX7 := Lib.hid (HXz.out.grow hb7)
      have HY7 := Lib.hid (HYz.out.grow hb7)
      have HZ7 := Lib.hid (HZ6.out.grow hb7)
      clear hb7 HBz HXz HYz HB6 HX6 HY6
      go_wp2_with fail
      refine (Pour_err x y _ _ _ w7 HX7.out (by omega) HY7.out 1 HBD.out.one (by decide)).mono ?_
      rintro e w8 ⟨rfl, hb8⟩
      have HB8 := Lib.hid (Below.andThen HB7.out hb8 (Nat.le_refl _))
      have HX8 := Lib.hid (HX7.out.grow hb8)
      have HY8 := Lib.hid (HY7.out.grow hb8)
      have HZ8 := Lib.hid (HZ7.out.grow hb8)
      clear hb8 HB7 HX7 HY7
      go_wp2_with fail
      refine (Way_err x (List.replicate x.length 0) y _ _ _ true w8 HX8.out (by omega) HZ8.out HY8.out 1 (HBD.out.two _) (by decide)).mono ?_
      rintro e w9 ⟨rfl, hb9⟩
      have HB9 := Lib.hid (Below.andThen HB8.out hb9 (Nat.le_refl _))
      have HX9 := Lib.hid (HX8.out.grow hb9)
      have HY9 := Lib.hid (HY8.out.grow hb9)
      have HZ9 := Lib.hid (HZ8.out.grow hb9)
      clear hb9 HB8 HX8 HY8
      go_wp2_with fail
      refine (Reached_err x y _ _ false w9 HX9.out (by omega) HY9.out 1 HBD.out.one (by decide)).mono ?_
      rintro e w10 ⟨rfl, hb10⟩
      have HB10 := Lib.hid (Below.andThen HB9.out hb10 (Nat.le_refl _))
      have HX10 := Lib.hid (HX9.out.grow hb10)
      have HY10 := Lib.hid (HY9.out.grow hb10)
      have HZ10 := Lib.hid (HZ9.out.grow hb10)
      clear hb10 HB9 HX9 HY9
      go_wp2_with fail
      refine (Farthest_err x y _ _ true w10 HX10.out (by omega) HY10.out 1 HBD.out.one (by decide)).mono ?_
      rintro e w11 ⟨rfl, hb11⟩
      have HB11 := Lib.hid (Below.andThen HB10.out hb11 (Nat.le_refl _))
      have HX11 := Lib.hid (HX10.out.grow hb11)
      have HY11 := Lib.hid (HY10.out.grow hb11)
      have HZ11 := Lib.hid (HZ10.out.grow hb11)
      clear hb11 HB10 HX10 HY10
      go_wp2_with fail
      refine (Back_err x (List.replicate x.length 0) y _ _ _ w11 HX11.out (by omega) HZ11.out HY11.out 1 (HBD.out.two _) (by decide)).mono ?_
      rintro e w12 ⟨rfl, hb12⟩
      have HB12 := Lib.hid (Below.andThen HB11.out hb12 (Nat.le_refl _))
      have HX12 := Lib.hid (HX11.out.grow hb12)
      have HY12 := Lib.hid (HY11.out.grow hb12)
      have HZ12 := Lib.hid (HZ11.out.grow hb12)
      clear hb12 HB11 HX11 HY11
      go_wp2_with fail
      refine (Way_err x y (List.replicate x.length 0) _ _ _ false w12 HX12.out (by omega) HY12.out HZ12.out 1 (HBD.out.two' _) (by decide)).mono ?_
      rintro e w13 ⟨rfl, hb13⟩
      have HB13 := Lib.hid (Below.andThen HB12.out hb13 (Nat.le_refl _))
      have HX13 := Lib.hid (HX12.out.grow hb13)
      have HY13 := Lib.hid (HY12.out.grow hb13)
      have HZ13 := Lib.hid (HZ12.out.grow hb13)
      clear hb13 HB12 HX12 HY12
      go_wp2_with fail
      refine (awake_any _).mono ?_
      rintro e wq ⟨rfl, hb⟩
      have HE := Lib.hid (Below.andThen HB13.out hb (Nat.le_refl _))
      clear hb
      go_wp2_with fail
      go_ret
      exact ⟨rfl, HE.out⟩
    | true =>
      rw [hfit] at HRF
      have HE0 := Lib.hid (show errA x [y] = 0 from errA_fits HJ.out hfit)
      clear hfit
      refine (HRF.out).mono ?_
      rintro e w5 ⟨rfl, hb5⟩
      have HB5 := Lib.hid (Below.andThen HB4.out hb5 (Nat.le_refl _))
      have HX5 := Lib.hid (HX4.out.grow hb5)
      have HY5 := Lib.hid (HY4.out.grow hb5)
      clear hb5 HB4 HX4 HY4
      clear HRF
      go_wp2_with fail
      have HCF := Lib.hid (CheckFilling_any x y xv yv w5 HX5.out HY5.out (by omega))
      rw [HE0.out] at HCF
      refine HCF.out.mono ?_
      rintro e w6 ⟨rfl, hb6⟩
      have HB6 := Lib.hid (Below.andThen HB5.out hb6 (Nat.le_refl _))
      clear hb6 HCF
      go_wp2_with fail
      refine (awake_any _).mono ?_
      rintro e wq ⟨rfl, hb⟩
      have HE := Lib.hid (Below.andThen HB6.out hb (Nat.le_refl _))
      clear hb
      go_wp2_with fail
      go_ret
      exact ⟨rfl, HE.out⟩
end Go.Proofs.Ytlamppplnojpbaa
