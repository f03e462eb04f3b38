import Derived.Test.YtlamppplnojpbaaKb
import Derived.Laws.AppendOwn
import Derived.ChangeKeysEq
import Derived.Maps.RangeWalk
import Derived.Maps.OwnIn
import Derived.Maps.AppendAt
import Derived.RangeFuncNested
import Derived.RangeFuncBound
import Derived.RangeFuncCalls
import Derived.RangeFuncLeaves
import Derived.Shelf.Abstract
import Derived.Shelf.RegionOpen
import Derived.WalkKit
import Derived.WalkMore
import Derived.OwnWalkIn
import Derived.TacticsInMore
import Derived.LoopNIn
import Derived.LoopIn
import Derived.WalkSpells
import Derived.WalkLawsBesides
import Derived.BigQuiet
import Derived.Deep.QuietTactic
import Derived.Lib.Hide
import Derived.Deep.RegionHeld3
import Derived.StillTailTactics
import Derived.Deep.LoopGhost
import Derived.Maps.OwnSet
import Derived.Lib.IndexAny
import Derived.Sort.QuietThIn
import Derived.Sort.QuietTacIn
import Derived.Sort.BigQuietIn
namespace Go.Proofs.Ytlamppplnojpbaa
open Go.RowKit Go.Shelf
attribute [local go_sem] Oper.semAt_some
theorem info3 : (Try.prog.info? 3).map (fun i => (i.zero, i.size, i.bytes)) = some (some (.int .i64 0), 1, 8) := by kernel_rfl
/-- the amounts that are marked -/
def markF (xs : List Int) : List Value := (List.range 13).map fun i : Nat => .bool (decide ((i : Int) ∈ xs))
theorem markF_len (xs : List Int) : (markF xs).length = 13 := by simp [markF]
theorem markF_set (xs : List Int) (a : Nat) : (markF xs).set a (.bool true) = markF ((a : Int) :: xs) := by
  refine List.ext_getElem (by simp [markF]) fun i h1 h2 => ?_
  rw [List.getElem_set]
  simp only [markF, List.getElem_map, List.getElem_range]
  by_cases h : a = i
  · subst h; simp
  · rw [if_neg h]
    have : ¬ ((i : Int) = (a : Int)) := by omega
    simp [this]
theorem markF_get (xs : List Int) (a : Nat) (ha : a < 13) : (markF xs)[a]? = some (.bool (decide ((a : Int) ∈ xs))) := by
  simp [markF, ha]
theorem markF_congr {xs ys : List Int} (h : ∀ a : Nat, a < 13 → ((a : Int) ∈ xs ↔ (a : Int) ∈ ys)) : markF xs = markF ys := by
  unfold markF
  refine List.map_congr_left fun i hi => ?_
  rw [decide_eq_decide.2 (h i (List.mem_range.1 hi))]
/-- the amounts of all fillings of a search -/
def amtB (A : Sn) (n : Nat) (i : Nat) : Bool := A.any fun p => decide ((i : Int) ∈ p.1.take n)
def amtL (A : Sn) (n k : Nat) : List Int := ((List.range k).filter (amtB A n)).map fun i : Nat => (i : Int)
theorem amtL_succ (A : Sn) (n k : Nat) : amtL A n (k + 1) = amtL A n k ++ (if amtB A n k = true then [(k : Int)] else []) := by
  unfold amtL
  rw [List.range_succ, List.filter_append, List.map_append]
  congr 1
  by_cases h : amtB A n k = true
  · rw [if_pos h]; simp [h]
  · rw [if_neg h]; simp [h]
set_option maxRecDepth 100000 in
set_option maxHeartbeats 400000 in
theorem Amounts_err (zs : List Int) (v : Value) (w : World) (hv : SlI w v zs) (hl : zs.length ≤ 1000000) (hj : jugsB zs = false) :
    Calls Try.prog 20 #[v] w fun e w' => e = .returned (.tuple #[.slice none 0 0, .int .i64 20]) ∧ Below w.heap.size w w' := by
  have HC := Lib.hid (check_any zs v w hv hl)
  have e : errJ zs = 20 := by unfold errJ; rw [if_neg (by rw [hj]; simp)]
  rw [e] at HC
  clear hv hl hj e
  go_enter Try.func20, Try.ntmps20
  go_wp2_with fail
  refine HC.out.mono ?_
  rintro e w1 ⟨rfl, hb⟩
  have HB := Lib.hid hb
  clear hb HC
  go_wp2_with fail
  refine bodyPost_ret (v := .tuple #[.slice none 0 0, .int .i64 20]) (by simp [results, Try.results20, go_sem]) rfl ?_
  exact ⟨rfl, HB.out⟩
theorem ne_blocks {W : World} {b r n g : Nat} {S : List Int → Option Value} {vis : List (List Int)} {c : Nat} {E : TypeId} {vs : List Value} (h : RngAt W b r n S vis c) (hr : Row W g E vs) (e : b = g) : False := by
  obtain ⟨D, left, h1, _⟩ := h
  obtain ⟨es, clock, hb, _⟩ := h1.owns
  subst e
  rw [show W.heap[b]? = _ from hr] at hb; cases hb
theorem cell_one_at (w : World) (x : Value) (t : TypeId) (n : Nat) (hn : w.heap.size = n) : ∀ j u, [x][j]? = some u → (w.alloc (.cells #[x] t)).cell? ((⟨n, 0, none⟩ : Addr).add j) = some u := by
  subst hn; exact cell_one_new w x t
theorem own_below {W0 W w2 : World} {o : Obj} {k : Nat} {v : Value} {xs : List Value} (h : W.ownsRow W0.heap.size 3 1 v k xs) (hb : Below W0.heap.size W0 W) (hg : (W.alloc o).grownBy w2 v.ownBlock) : Below W0.heap.size W0 w2 :=
  (Below.al hb (Nat.le_refl _) o).grown hg (Nat.le_trans hb.size (by simp)) (fun r e => by
    rcases h.2 with ⟨rfl, _⟩ | ⟨g', cap, cur, rfl, h1, _⟩
    · simp [Value.ownBlock] at e
    · simp [Value.ownBlock] at e; omega)
theorem filter_snoc (m : Nat → Bool) (k : Nat) : ((List.range (k + 1)).filter m).map (fun i : Nat => (i : Int)) = ((List.range k).filter m).map (fun i : Nat => (i : Int)) ++ (if m k = true then [(k : Int)] else []) := by
  rw [List.range_succ, List.filter_append, List.map_append]
  congr 1
  by_cases h : m k = true
  · rw [if_pos h]; simp [h]
  · rw [if_neg h]; simp [h]
theorem idx13 (m : Nat → Bool) (i : Nat) (hi : i < 13) (W : World) : (Instr.index 73 (.agg #[.bool (m 0), .bool (m 1), .bool (m 2), .bool (m 3), .bool (m 4), .bool (m 5), .bool (m 6), .bool (m 7), .bool (m 8), .bool (m 9), .bool (m 10), .bool (m 11), .bool (m 12)]) (.int .i64 (i : Int))).run Try.prog W = .ok (.bool (m i)) W := by
  rcases (show i = 0 ∨ i = 1 ∨ i = 2 ∨ i = 3 ∨ i = 4 ∨ i = 5 ∨ i = 6 ∨ i = 7 ∨ i = 8 ∨ i = 9 ∨ i = 10 ∨ i = 11 ∨ i = 12 by omega) with rfl | rfl | rfl | rfl | rfl | rfl | rfl | rfl | rfl | rfl | rfl | rfl | rfl <;> kernel_rfl
theorem marks_all {P : List Int} {ss : List (Int × Int)} {S : List Int} {A : Sn} (ht : TreeA P ss S A) (n : Nat) {vis : List (List Int)} (hall : ∀ F, Fok F → (seenV A F).isSome = true → F ∈ vis) (hvis : ∀ F ∈ vis, (seenV A F).isSome = true) :
    ((List.range 13).filter (fun i : Nat => decide ((i : Int) ∈ vis.flatMap (·.take n)))).map (fun i : Nat => (i : Int)) = amtL A n 13 := by
  unfold amtL
  congr 1
  refine List.filter_congr fun i _ => ?_
  unfold amtB
  rw [Bool.eq_iff_iff, decide_eq_true_iff, List.any_eq_true, List.mem_flatMap]
  constructor
  · rintro ⟨F, hF, hi⟩
    have h1 := hvis F hF
    unfold seenV at h1
    rw [Option.isSome_map] at h1
    obtain ⟨c, hc⟩ := Option.isSome_iff_exists.1 h1
    exact ⟨(F, c), lookA_mem A F c hc, decide_eq_true hi⟩
  · rintro ⟨p, hp, hi⟩
    refine ⟨p.1, hall p.1 (ht.fits p hp).fok ?_, of_decide_eq_true hi⟩
    unfold seenV
    rw [Option.isSome_map]
    exact lookA_key A p.1 (List.mem_map.2 ⟨p, hp, rfl⟩)
set_option maxRecDepth 100000 in
set_option maxHeartbeats 1000000 in
theorem Amounts_ok (zs : List Int) (v : Value) (w : World) (hv : SlI w v zs) (hj : jugsB zs = true) (res : Sn × Option (List Int)) (hres : srch (padF zs) glN (ssF false zs.length) 28562 (padF []) = some res) :
    Calls Try.prog 20 #[v] w fun e w' => ∃ s, e = .returned (.tuple #[s, .int .i64 0]) ∧ w'.ownsRow w.heap.size 3 1 s (amtL res.1 zs.length 13).length ((amtL res.1 zs.length 13).map encI) ∧ Below w.heap.size w w' := by
  obtain ⟨i0, hi, hz0, hz1, hz2⟩ := info_parts info3
  obtain ⟨hn1, hn4, p0, p1, p2, p3, hp, hjv, b0, b1, b2, b3⟩ := jugs_open hj
  have hfit : FitP (padF zs) (padF []) := by rw [hp]; exact ⟨rfl, fun i hi => by match i, hi with | 0, _ | 1, _ | 2, _ | 3, _ => simp [padF, List.replicate]; omega⟩
  have hst := srch_tree _ _ (lsF false) (mF false zs.length) (lsF_ok false) (by have := mF_ok false zs.length; omega) _ hfit _ res hres
  have HC := Lib.hid (check_any zs v w hv (by omega))
  have e0 : errJ zs = 0 := by unfold errJ; rw [if_pos hj]
  rw [e0] at HC
  have HR := Lib.hid (fun (W : World) (hb : Below w.heap.size w W) => reached_any zs [] v (.slice none 0 0) false W (hv.grow hb) ⟨none, 0, rfl, Nat.le_refl _, .inl rfl⟩ (by simp) hj hfit res hres)
  have HT := Lib.hid hst.1
  obtain ⟨n, hn0⟩ : ∃ n, zs.length = n := ⟨_, rfl⟩
  rw [hn0] at hn1 hn4 ⊢
  obtain ⟨sa, sc, hsv⟩ : ∃ sa sc, v = .slice sa n sc := by obtain ⟨a, c, h, _⟩ := hv; exact ⟨a, c, by rw [h, hn0]⟩
  clear hv hj hp hjv b0 b1 b2 b3 hfit hst hres e0 hn0
  subst hsv
  have hn : n = 1 ∨ n = 2 ∨ n = 3 ∨ n = 4 := by omega
  clear hn1 hn4
  rcases hn with rfl | rfl | rfl | rfl
  · go_enter Try.func20, Try.ntmps20
    go_wp2_with fail
    refine HC.out.mono ?_
    rintro e w1 ⟨rfl, hb⟩
    have HB := Lib.hid hb
    clear hb HC
    have b5 := (Below.refl w1.heap.size w1).alloc (Nat.le_refl _) (.cells #[.bool false, .bool false, .bool false, .bool false, .bool false, .bool false, .bool false, .bool false, .bool false, .bool false, .bool false, .bool false, .bool false] 73)
    have r5 : Row (w1.alloc (.cells #[.bool false, .bool false, .bool false, .bool false, .bool false, .bool false, .bool false, .bool false, .bool false, .bool false, .bool false, .bool false, .bool false] 73)) w1.heap.size 73 (markF []) := Row.new w1 73 _
    have R5 := Lib.hid r5
    have B5 := Lib.hid b5
    have BW5 := Lib.hid (Below.andThen HB.out b5 (Nat.le_refl _))
    have SZ5 := Lib.hid (size_al w1 (.cells #[.bool false, .bool false, .bool false, .bool false, .bool false, .bool false, .bool false, .bool false, .bool false, .bool false, .bool false, .bool false, .bool false] 73))
    clear b5 r5
    go_wp2_with fail
    refine (HR.out _ BW5.out).mono ?_
    rintro e w2 ⟨x, rfl, ⟨b, rfl, hsn⟩, hb⟩
    have HSN := Lib.hid hsn
    have R6 := Lib.hid (R5.out.below hb R5.out.lt)
    have BW6 := Lib.hid (Below.andThen BW5.out hb (Nat.le_refl _))
    have HBL := Lib.hid hb.size
    clear hsn hb R5 BW5 HR B5
    go_wp2_with (at_range; refine wpList_range_seen rfl _ 74 rfl Try.underlying74 b _ _ rfl HSN.out ?_; rintro w3 hrg hgr hsz)
    have hb3 : Below w2.heap.size w2 w3 := ⟨hgr.os, hgr.tape, hgr.output, hgr.size, fun k hk => hgr.block k hk (by simp)⟩
    have R7 := Lib.hid (R6.out.below hb3 R6.out.lt)
    have BW7 := Lib.hid (Below.andThen BW6.out hb3 (Nat.le_refl _))
    have HRG := Lib.hid hrg
    have HBS := Lib.hid HSN.out.lt
    have R6L := Lib.hid R6.out.lt
    have BW7L := Lib.hid (show w.heap.size ≤ w2.heap.size by have := BW6.out.size; omega)
    have HBNE := Lib.hid (show b ≠ w1.heap.size from fun e => by have h1 := hrg.lt.2; exact ne_blocks hrg R7.out e)
    clear hrg hgr hb3 R6 BW6 HSN hsz
    go_wp2_with fail
    go_frame
    go_loopw [] (fun wr => ∃ vis c, Hid (RngAt wr b w2.heap.size res.1.length (seenV res.1) vis c ∧ Row wr w1.heap.size 73 (markF (vis.flatMap (·.take 1))) ∧ Below w.heap.size w wr ∧ ∀ F ∈ vis, (seenV res.1 F).isSome = true)) (fun wr => wr.rangeLeft b w2.heap.size)
    case atStart => exact ⟨[], _, Lib.hid ⟨HRG.out, R7.out, BW7.out, fun F hF => by cases hF⟩⟩
    case round =>
      clear HRG R7 BW7
      obtain ⟨vis, c, HR⟩ := hrel
      go_wp2_with (at_next; refine wpList_next_seen rfl _ rfl b w2.heap.size _ _ vis c rfl HR.out.1 ?_ ?_)
      · intro hall
        have HM := Lib.hid (marks_all HT.out 1 hall HR.out.2.2.2)
        obtain ⟨m, hm⟩ : ∃ m : Nat → Bool, m = fun i : Nat => decide ((i : Int) ∈ vis.flatMap (·.take 1)) := ⟨_, rfl⟩
        have hc0 : ∀ i : Nat, i < 13 → wr.cell? ⟨w1.heap.size, i, none⟩ = some (.bool (m i)) := fun i hi => by rw [HR.out.2.1.cell, markF_get _ i hi, hm]
        rw [← hm] at HM
        have c0 := hc0 0 (by omega)
        have c1 := hc0 1 (by omega)
        have c2 := hc0 2 (by omega)
        have c3 := hc0 3 (by omega)
        have c4 := hc0 4 (by omega)
        have c5 := hc0 5 (by omega)
        have c6 := hc0 6 (by omega)
        have c7 := hc0 7 (by omega)
        have c8 := hc0 8 (by omega)
        have c9 := hc0 9 (by omega)
        have c10 := hc0 10 (by omega)
        have c11 := hc0 11 (by omega)
        have c12 := hc0 12 (by omega)
        have T := Lib.hid HR.out.2.2.1
        have EX := Lib.hid (fun (i : Nat) (hi : i < 13) (W : World) => idx13 m i hi W)
        clear hc0 hm hall HR
        go_wp2_with fail
        go_loopw [9, 36] (fun lv iv wx => ∃ k : Nat, k ≤ 13 ∧ iv = .int .i64 (k : Int) ∧ Hid (wx.ownsRow w.heap.size 3 1 lv (((List.range k).filter m).map (fun i : Nat => (i : Int))).length ((((List.range k).filter m).map (fun i : Nat => (i : Int))).map encI) ∧ Below w.heap.size w wx)) (fun _ iv _ => 13 - (intOf iv).toNat)
        case atStart => exact ⟨0, by omega, rfl, Lib.hid ⟨World.ownsRow_nil _ _ _ _, T.out⟩⟩
        case round =>
          clear T
          obtain ⟨k, hk, rfl, HO⟩ := hrel
          clear c0 c1 c2 c3 c4 c5 c6 c7 c8 c9 c10 c11 c12
          have kw : IntKind.i64.wrap ((k : Int) + 1) = ((k + 1 : Nat) : Int) := by rw [i64_of _ (by omega) (by omega)]; omega
          by_cases hlt : k < 13
          · have hd : decide ((k : Int) < 13) = true := decide_eq_true (by omega)
            have HE := EX.out k hlt
            have hsn := filter_snoc m k
            have hll : ((List.range k).filter m).length ≤ 13 := Nat.le_trans (List.length_filter_le _ _) (by rw [List.length_range]; exact hk)
            rw [← List.length_map (f := fun i : Nat => (i : Int))] at hll
            generalize ((List.range k).filter m).map (fun i : Nat => (i : Int)) = LL at *
            cases hmk : m k
            · rw [hmk, if_neg (by simp), List.append_nil] at hsn
              have HSN := Lib.hid hsn
              rw [hmk] at HE
              clear hsn hmk
              go_wp2_with fail
              go_roundw
              case rel => exact ⟨k + 1, by omega, by simp, by rw [HSN.out]; exact HO⟩
              case measure => simp [intOf]; omega
            · rw [hmk, if_pos rfl] at hsn
              have HSN := Lib.hid hsn
              rw [hmk] at HE
              clear hsn hmk
              go_wp2_with (at_builtin; refine wpList_append_own_at _ rfl _ _ 22 rfl w.heap.size 3 i0 (.int .i64 0) 1 8 Try.underlying22 hi hz0 hz1 hz2 rfl (by decide) _ _ _ rfl (HO.out.1.alloc _) _ 1 1 [encI (k : Int)] rfl rfl (cell_one_at _ _ _ _ (by simp)) (by simp [Value.oneCell', encI]) (by unfold maxLen; omega) (by omega) (Nat.le_trans HO.out.2.size (by simp)) ?_; intro v' w2' hown' hgrow hnil hat; have HR2 := Lib.hid hown'; have HB2 := Lib.hid (own_below HO.out.1 HO.out.2 hgrow); clear hown' hgrow hnil hat)
              go_roundw
              case rel => exact ⟨k + 1, by omega, by simp, by rw [HSN.out]; exact Lib.hid ⟨by simpa using HR2.out, HB2.out⟩⟩
              case measure => simp [intOf]; omega
          · have hd : decide ((k : Int) < 13) = false := decide_eq_false (by omega)
            obtain rfl : k = 13 := by omega
            go_wp2_with fail
            refine bodyPost_ret (v := .tuple #[u9, .int .i64 0]) (by simp [results, Try.results20, go_sem]) rfl ?_
            refine ⟨u9, rfl, ?_, HO.out.2⟩
            have h := HO.out.1
            rw [HM.out] at h
            exact h
      · intro F v4 w4 c4 hF hS hvis hrg4 hlt4 hgr4 hsz4 hen
        have HEN := hen
        obtain ⟨cF, hcF⟩ : ∃ cF, lookA res.1 F = some cF := by
          unfold seenV at hS
          cases hl : lookA res.1 F with
          | none => rw [hl] at hS; cases hS
          | some c => exact ⟨c, rfl⟩
        have hfF := (HT.out.fit hcF).1
        obtain ⟨q0, q1, q2, q3, rfl⟩ := agg4 F hF.1
        simp only [aggI, List.map_cons, List.map_nil, encI] at HEN ⊢
        have HV4 := Lib.hid hfF
        have R4 := Lib.hid (HR.out.2.1.kept hgr4 (fun e => by have := Option.some.inj e; have := R6L.out; omega))
        have HRG4 := Lib.hid hrg4
        have HLT4 := Lib.hid hlt4
        have T4 := Lib.hid (HR.out.2.2.1.grown hgr4 HR.out.2.2.1.size (fun k e => by have := Option.some.inj e; have := BW7L.out; omega))
        have HLF := Lib.hid HR.out.1.left
        have HSZ4 := Lib.hid hsz4
        have HVS := Lib.hid (show ∀ G ∈ [q0, q1, q2, q3] :: vis, (seenV res.1 G).isSome = true from fun G hG => by
          rcases List.mem_cons.1 hG with rfl | hG
          · rw [hS]; rfl
          · exact HR.out.2.2.2 G hG)
        clear hcF hfF hF hS hvis hrg4 hlt4 hgr4 hen HR
        have bF := (Below.refl w4.heap.size w4).alloc (Nat.le_refl _) (.cells #[.int .i64 q0, .int .i64 q1, .int .i64 q2, .int .i64 q3] 77)
        have rF := Row.new w4 77 [.int .i64 q0, .int .i64 q1, .int .i64 q2, .int .i64 q3]
        have RF := Lib.hid rF
        have R5 := Lib.hid (R4.out.below bF R4.out.lt)
        have HRG5 := Lib.hid (HRG4.out.grow bF)
        have T5 := Lib.hid (Below.andThen T4.out bF (Nat.le_refl _))
        clear bF rF
        have hwF := RF.out.lt
        go_wp2_with fail
        have HRF := Lib.hid (show Row (w4.alloc (.cells #[.int .i64 q0, .int .i64 q1, .int .i64 q2, .int .i64 q3] 77)) wr.heap.size 77 [.int .i64 q0, .int .i64 q1, .int .i64 q2, .int .i64 q3] by rw [← HSZ4.out]; exact RF.out)
        have HBW := Lib.hid (show w2.heap.size < wr.heap.size by rw [← HSZ4.out]; exact HRG4.out.lt.1)
        generalize hbf : wr.heap.size = BF at *
        clear hbf RF R4 HRG4 T4 hsz4 hwF
        go_loopw [28] (fun iv wx => ∃ k : Nat, k ≤ 1 ∧ iv = .int .i64 (k : Int) ∧ Hid (RngAt wx b w2.heap.size res.1.length (seenV res.1) ([q0, q1, q2, q3] :: vis) c4 ∧ Row wx BF 77 [.int .i64 q0, .int .i64 q1, .int .i64 q2, .int .i64 q3] ∧ Row wx w1.heap.size 73 (markF (([q0, q1, q2, q3].take k) ++ vis.flatMap (·.take 1))) ∧ Below w.heap.size w wx)) (fun iv _ => 1 - (intOf iv).toNat)
        case atStart => exact ⟨0, by omega, rfl, Lib.hid ⟨HRG5.out, HRF.out, R5.out, T5.out⟩⟩
        case round =>
          clear HRG5 HRF R5 T5
          obtain ⟨k, hk, rfl, HI⟩ := hrel
          have kw : IntKind.i64.wrap ((k : Int) + 1) = ((k + 1 : Nat) : Int) := by rw [i64_of _ (by omega) (by omega)]; omega
          by_cases hlt : k < 1
          · have hd : decide ((k : Int) < 1) = true := decide_eq_true (by omega)
            obtain ⟨qa, hqa, hqb⟩ : ∃ qa : Nat, [q0, q1, q2, q3][k]? = some (qa : Int) ∧ qa < 13 := by
              have h1 := HV4.out.2 k (by omega)
              have h2 : k < [q0, q1, q2, q3].length := by simp; omega
              rw [getD_lt h2] at h1
              exact ⟨[q0, q1, q2, q3][k].toNat, by rw [List.getElem?_eq_getElem h2]; congr 1; omega, by omega⟩
            have ck : wr.cell? ⟨BF, k, none⟩ = some (.int .i64 (qa : Int)) := by
              rw [HI.out.2.1.cell k, show ([.int .i64 q0, .int .i64 q1, .int .i64 q2, .int .i64 q3] : List Value) = [q0, q1, q2, q3].map encI from rfl, List.getElem?_map, hqa]; rfl
            have cm : wr.cell? ⟨w1.heap.size, qa, none⟩ = some (.bool (decide ((qa : Int) ∈ ([q0, q1, q2, q3].take k) ++ vis.flatMap (·.take 1)))) := by
              rw [HI.out.2.2.1.cell qa]; exact markF_get _ qa hqb
            have fm := frozen_of_row wr w1.heap.size qa _ _ HI.out.2.2.1
            have htk : markF (([q0, q1, q2, q3].take (k + 1)) ++ vis.flatMap (·.take 1)) = (markF (([q0, q1, q2, q3].take k) ++ vis.flatMap (·.take 1))).set qa (.bool true) := by
              rw [markF_set]
              refine markF_congr fun a _ => ?_
              rw [List.take_add_one, hqa]
              simp only [Option.toList_some, List.mem_append, List.mem_cons, List.mem_singleton, List.not_mem_nil, or_false]
              constructor
              · rintro ((h | h) | h)
                · exact .inr (.inl h)
                · exact .inl h
                · exact .inr (.inr h)
              · rintro (h | h | h)
                · exact .inl (.inr h)
                · exact .inl (.inl h)
                · exact .inr h
            have HTK := Lib.hid htk
            generalize decide ((qa : Int) ∈ ([q0, q1, q2, q3].take k) ++ vis.flatMap (·.take 1)) = mb at *
            clear htk hqa
            go_wp2_with fail
            go_roundw
            case rel =>
              have G := one_set wr w1.heap.size qa (.bool true)
              refine ⟨k + 1, by omega, by simp, Lib.hid ⟨HI.out.1.kept G (fun e => by have := Option.some.inj e; have := HBNE.out; omega) (fun e => by have := Option.some.inj e; have := R6L.out; omega), HI.out.2.1.kept G (fun e => by have := Option.some.inj e; have := R6L.out; have := HBW.out; omega), ?_, HI.out.2.2.2.grown G HI.out.2.2.2.size (fun k e => by have := Option.some.inj e; have := HB.out.size; omega)⟩⟩
              rw [HTK.out]
              exact HI.out.2.2.1.set qa (.bool true)
            case measure => simp [intOf]; omega
          · have hd : decide ((k : Int) < 1) = false := decide_eq_false (by omega)
            obtain rfl : k = 1 := by omega
            go_wp2_with fail
            go_roundw
            case rel => exact ⟨[q0, q1, q2, q3] :: vis, c4, Lib.hid ⟨HI.out.1, HI.out.2.2.1, HI.out.2.2.2, HVS.out⟩⟩
            case measure => rw [HI.out.1.left, HLF.out]; exact HLT4.out
  · go_enter Try.func20, Try.ntmps20
    go_wp2_with fail
    refine HC.out.mono ?_
    rintro e w1 ⟨rfl, hb⟩
    have HB := Lib.hid hb
    clear hb HC
    have b5 := (Below.refl w1.heap.size w1).alloc (Nat.le_refl _) (.cells #[.bool false, .bool false, .bool false, .bool false, .bool false, .bool false, .bool false, .bool false, .bool false, .bool false, .bool false, .bool false, .bool false] 73)
    have r5 : Row (w1.alloc (.cells #[.bool false, .bool false, .bool false, .bool false, .bool false, .bool false, .bool false, .bool false, .bool false, .bool false, .bool false, .bool false, .bool false] 73)) w1.heap.size 73 (markF []) := Row.new w1 73 _
    have R5 := Lib.hid r5
    have B5 := Lib.hid b5
    have BW5 := Lib.hid (Below.andThen HB.out b5 (Nat.le_refl _))
    have SZ5 := Lib.hid (size_al w1 (.cells #[.bool false, .bool false, .bool false, .bool false, .bool false, .bool false, .bool false, .bool false, .bool false, .bool false, .bool false, .bool false, .bool false] 73))
    clear b5 r5
    go_wp2_with fail
    refine (HR.out _ BW5.out).mono ?_
    rintro e w2 ⟨x, rfl, ⟨b, rfl, hsn⟩, hb⟩
    have HSN := Lib.hid hsn
    have R6 := Lib.hid (R5.out.below hb R5.out.lt)
    have BW6 := Lib.hid (Below.andThen BW5.out hb (Nat.le_refl _))
    have HBL := Lib.hid hb.size
    clear hsn hb R5 BW5 HR B5
    go_wp2_with (at_range; refine wpList_range_seen rfl _ 74 rfl Try.underlying74 b _ _ rfl HSN.out ?_; rintro w3 hrg hgr hsz)
    have hb3 : Below w2.heap.size w2 w3 := ⟨hgr.os, hgr.tape, hgr.output, hgr.size, fun k hk => hgr.block k hk (by simp)⟩
    have R7 := Lib.hid (R6.out.below hb3 R6.out.lt)
    have BW7 := Lib.hid (Below.andThen BW6.out hb3 (Nat.le_refl _))
    have HRG := Lib.hid hrg
    have HBS := Lib.hid HSN.out.lt
    have R6L := Lib.hid R6.out.lt
    have BW7L := Lib.hid (show w.heap.size ≤ w2.heap.size by have := BW6.out.size; omega)
    have HBNE := Lib.hid (show b ≠ w1.heap.size from fun e => by have h1 := hrg.lt.2; exact ne_blocks hrg R7.out e)
    clear hrg hgr hb3 R6 BW6 HSN hsz
    go_wp2_with fail
    go_frame
    go_loopw [] (fun wr => ∃ vis c, Hid (RngAt wr b w2.heap.size res.1.length (seenV res.1) vis c ∧ Row wr w1.heap.size 73 (markF (vis.flatMap (·.take 2))) ∧ Below w.heap.size w wr ∧ ∀ F ∈ vis, (seenV res.1 F).isSome = true)) (fun wr => wr.rangeLeft b w2.heap.size)
    case atStart => exact ⟨[], _, Lib.hid ⟨HRG.out, R7.out, BW7.out, fun F hF => by cases hF⟩⟩
    case round =>
      clear HRG R7 BW7
      obtain ⟨vis, c, HR⟩ := hrel
      go_wp2_with (at_next; refine wpList_next_seen rfl _ rfl b w2.heap.size _ _ vis c rfl HR.out.1 ?_ ?_)
      · intro hall
        have HM := Lib.hid (marks_all HT.out 2 hall HR.out.2.2.2)
        obtain ⟨m, hm⟩ : ∃ m : Nat → Bool, m = fun i : Nat => decide ((i : Int) ∈ vis.flatMap (·.take 2)) := ⟨_, rfl⟩
        have hc0 : ∀ i : Nat, i < 13 → wr.cell? ⟨w1.heap.size, i, none⟩ = some (.bool (m i)) := fun i hi => by rw [HR.out.2.1.cell, markF_get _ i hi, hm]
        rw [← hm] at HM
        have c0 := hc0 0 (by omega)
        have c1 := hc0 1 (by omega)
        have c2 := hc0 2 (by omega)
        have c3 := hc0 3 (by omega)
        have c4 := hc0 4 (by omega)
        have c5 := hc0 5 (by omega)
        have c6 := hc0 6 (by omega)
        have c7 := hc0 7 (by omega)
        have c8 := hc0 8 (by omega)
        have c9 := hc0 9 (by omega)
        have c10 := hc0 10 (by omega)
        have c11 := hc0 11 (by omega)
        have c12 := hc0 12 (by omega)
        have T := Lib.hid HR.out.2.2.1
        have EX := Lib.hid (fun (i : Nat) (hi : i < 13) (W : World) => idx13 m i hi W)
        clear hc0 hm hall HR
        go_wp2_with fail
        go_loopw [9, 36] (fun lv iv wx => ∃ k : Nat, k ≤ 13 ∧ iv = .int .i64 (k : Int) ∧ Hid (wx.ownsRow w.heap.size 3 1 lv (((List.range k).filter m).map (fun i : Nat => (i : Int))).length ((((List.range k).filter m).map (fun i : Nat => (i : Int))).map encI) ∧ Below w.heap.size w wx)) (fun _ iv _ => 13 - (intOf iv).toNat)
        case atStart => exact ⟨0, by omega, rfl, Lib.hid ⟨World.ownsRow_nil _ _ _ _, T.out⟩⟩
        case round =>
          clear T
          obtain ⟨k, hk, rfl, HO⟩ := hrel
          clear c0 c1 c2 c3 c4 c5 c6 c7 c8 c9 c10 c11 c12
          have kw : IntKind.i64.wrap ((k : Int) + 1) = ((k + 1 : Nat) : Int) := by rw [i64_of _ (by omega) (by omega)]; omega
          by_cases hlt : k < 13
          · have hd : decide ((k : Int) < 13) = true := decide_eq_true (by omega)
            have HE := EX.out k hlt
            have hsn := filter_snoc m k
            have hll : ((List.range k).filter m).length ≤ 13 := Nat.le_trans (List.length_filter_le _ _) (by rw [List.length_range]; exact hk)
            rw [← List.length_map (f := fun i : Nat => (i : Int))] at hll
            generalize ((List.range k).filter m).map (fun i : Nat => (i : Int)) = LL at *
            cases hmk : m k
            · rw [hmk, if_neg (by simp), List.append_nil] at hsn
              have HSN := Lib.hid hsn
              rw [hmk] at HE
              clear hsn hmk
              go_wp2_with fail
              go_roundw
              case rel => exact ⟨k + 1, by omega, by simp, by rw [HSN.out]; exact HO⟩
              case measure => simp [intOf]; omega
            · rw [hmk, if_pos rfl] at hsn
              have HSN := Lib.hid hsn
              rw [hmk] at HE
              clear hsn hmk
              go_wp2_with (at_builtin; refine wpList_append_own_at _ rfl _ _ 22 rfl w.heap.size 3 i0 (.int .i64 0) 1 8 Try.underlying22 hi hz0 hz1 hz2 rfl (by decide) _ _ _ rfl (HO.out.1.alloc _) _ 1 1 [encI (k : Int)] rfl rfl (cell_one_at _ _ _ _ (by simp)) (by simp [Value.oneCell', encI]) (by unfold maxLen; omega) (by omega) (Nat.le_trans HO.out.2.size (by simp)) ?_; intro v' w2' hown' hgrow hnil hat; have HR2 := Lib.hid hown'; have HB2 := Lib.hid (own_below HO.out.1 HO.out.2 hgrow); clear hown' hgrow hnil hat)
              go_roundw
              case rel => exact ⟨k + 1, by omega, by simp, by rw [HSN.out]; exact Lib.hid ⟨by simpa using HR2.out, HB2.out⟩⟩
              case measure => simp [intOf]; omega
          · have hd : decide ((k : Int) < 13) = false := decide_eq_false (by omega)
            obtain rfl : k = 13 := by omega
            go_wp2_with fail
            refine bodyPost_ret (v := .tuple #[u9, .int .i64 0]) (by simp [results, Try.results20, go_sem]) rfl ?_
            refine ⟨u9, rfl, ?_, HO.out.2⟩
            have h := HO.out.1
            rw [HM.out] at h
            exact h
      · intro F v4 w4 c4 hF hS hvis hrg4 hlt4 hgr4 hsz4 hen
        have HEN := hen
        obtain ⟨cF, hcF⟩ : ∃ cF, lookA res.1 F = some cF := by
          unfold seenV at hS
          cases hl : lookA res.1 F with
          | none => rw [hl] at hS; cases hS
          | some c => exact ⟨c, rfl⟩
        have hfF := (HT.out.fit hcF).1
        obtain ⟨q0, q1, q2, q3, rfl⟩ := agg4 F hF.1
        simp only [aggI, List.map_cons, List.map_nil, encI] at HEN ⊢
        have HV4 := Lib.hid hfF
        have R4 := Lib.hid (HR.out.2.1.kept hgr4 (fun e => by have := Option.some.inj e; have := R6L.out; omega))
        have HRG4 := Lib.hid hrg4
        have HLT4 := Lib.hid hlt4
        have T4 := Lib.hid (HR.out.2.2.1.grown hgr4 HR.out.2.2.1.size (fun k e => by have := Option.some.inj e; have := BW7L.out; omega))
        have HLF := Lib.hid HR.out.1.left
        have HSZ4 := Lib.hid hsz4
        have HVS := Lib.hid (show ∀ G ∈ [q0, q1, q2, q3] :: vis, (seenV res.1 G).isSome = true from fun G hG => by
          rcases List.mem_cons.1 hG with rfl | hG
          · rw [hS]; rfl
          · exact HR.out.2.2.2 G hG)
        clear hcF hfF hF hS hvis hrg4 hlt4 hgr4 hen HR
        have bF := (Below.refl w4.heap.size w4).alloc (Nat.le_refl _) (.cells #[.int .i64 q0, .int .i64 q1, .int .i64 q2, .int .i64 q3] 77)
        have rF := Row.new w4 77 [.int .i64 q0, .int .i64 q1, .int .i64 q2, .int .i64 q3]
        have RF := Lib.hid rF
        have R5 := Lib.hid (R4.out.below bF R4.out.lt)
        have HRG5 := Lib.hid (HRG4.out.grow bF)
        have T5 := Lib.hid (Below.andThen T4.out bF (Nat.le_refl _))
        clear bF rF
        have hwF := RF.out.lt
        go_wp2_with fail
        have HRF := Lib.hid (show Row (w4.alloc (.cells #[.int .i64 q0, .int .i64 q1, .int .i64 q2, .int .i64 q3] 77)) wr.heap.size 77 [.int .i64 q0, .int .i64 q1, .int .i64 q2, .int .i64 q3] by rw [← HSZ4.out]; exact RF.out)
        have HBW := Lib.hid (show w2.heap.size < wr.heap.size by rw [← HSZ4.out]; exact HRG4.out.lt.1)
        generalize hbf : wr.heap.size = BF at *
        clear hbf RF R4 HRG4 T4 hsz4 hwF
        go_loopw [28] (fun iv wx => ∃ k : Nat, k ≤ 2 ∧ iv = .int .i64 (k : Int) ∧ Hid (RngAt wx b w2.heap.size res.1.length (seenV res.1) ([q0, q1, q2, q3] :: vis) c4 ∧ Row wx BF 77 [.int .i64 q0, .int .i64 q1, .int .i64 q2, .int .i64 q3] ∧ Row wx w1.heap.size 73 (markF (([q0, q1, q2, q3].take k) ++ vis.flatMap (·.take 2))) ∧ Below w.heap.size w wx)) (fun iv _ => 2 - (intOf iv).toNat)
        case atStart => exact ⟨0, by omega, rfl, Lib.hid ⟨HRG5.out, HRF.out, R5.out, T5.out⟩⟩
        case round =>
          clear HRG5 HRF R5 T5
          obtain ⟨k, hk, rfl, HI⟩ := hrel
          have kw : IntKind.i64.wrap ((k : Int) + 1) = ((k + 1 : Nat) : Int) := by rw [i64_of _ (by omega) (by omega)]; omega
          by_cases hlt : k < 2
          · have hd : decide ((k : Int) < 2) = true := decide_eq_true (by omega)
            obtain ⟨qa, hqa, hqb⟩ : ∃ qa : Nat, [q0, q1, q2, q3][k]? = some (qa : Int) ∧ qa < 13 := by
              have h1 := HV4.out.2 k (by omega)
              have h2 : k < [q0, q1, q2, q3].length := by simp; omega
              rw [getD_lt h2] at h1
              exact ⟨[q0, q1, q2, q3][k].toNat, by rw [List.getElem?_eq_getElem h2]; congr 1; omega, by omega⟩
            have ck : wr.cell? ⟨BF, k, none⟩ = some (.int .i64 (qa : Int)) := by
              rw [HI.out.2.1.cell k, show ([.int .i64 q0, .int .i64 q1, .int .i64 q2, .int .i64 q3] : List Value) = [q0, q1, q2, q3].map encI from rfl, List.getElem?_map, hqa]; rfl
            have cm : wr.cell? ⟨w1.heap.size, qa, none⟩ = some (.bool (decide ((qa : Int) ∈ ([q0, q1, q2, q3].take k) ++ vis.flatMap (·.take 2)))) := by
              rw [HI.out.2.2.1.cell qa]; exact markF_get _ qa hqb
            have fm := frozen_of_row wr w1.heap.size qa _ _ HI.out.2.2.1
            have htk : markF (([q0, q1, q2, q3].take (k + 1)) ++ vis.flatMap (·.take 2)) = (markF (([q0, q1, q2, q3].take k) ++ vis.flatMap (·.take 2))).set qa (.bool true) := by
              rw [markF_set]
              refine markF_congr fun a _ => ?_
              rw [List.take_add_one, hqa]
              simp only [Option.toList_some, List.mem_append, List.mem_cons, List.mem_singleton, List.not_mem_nil, or_false]
              constructor
              · rintro ((h | h) | h)
                · exact .inr (.inl h)
                · exact .inl h
                · exact .inr (.inr h)
              · rintro (h | h | h)
                · exact .inl (.inr h)
                · exact .inl (.inl h)
                · exact .inr h
            have HTK := Lib.hid htk
            generalize decide ((qa : Int) ∈ ([q0, q1, q2, q3].take k) ++ vis.flatMap (·.take 2)) = mb at *
            clear htk hqa
            go_wp2_with fail
            go_roundw
            case rel =>
              have G := one_set wr w1.heap.size qa (.bool true)
              refine ⟨k + 1, by omega, by simp, Lib.hid ⟨HI.out.1.kept G (fun e => by have := Option.some.inj e; have := HBNE.out; omega) (fun e => by have := Option.some.inj e; have := R6L.out; omega), HI.out.2.1.kept G (fun e => by have := Option.some.inj e; have := R6L.out; have := HBW.out; omega), ?_, HI.out.2.2.2.grown G HI.out.2.2.2.size (fun k e => by have := Option.some.inj e; have := HB.out.size; omega)⟩⟩
              rw [HTK.out]
              exact HI.out.2.2.1.set qa (.bool true)
            case measure => simp [intOf]; omega
          · have hd : decide ((k : Int) < 2) = false := decide_eq_false (by omega)
            obtain rfl : k = 2 := by omega
            go_wp2_with fail
            go_roundw
            case rel => exact ⟨[q0, q1, q2, q3] :: vis, c4, Lib.hid ⟨HI.out.1, HI.out.2.2.1, HI.out.2.2.2, HVS.out⟩⟩
            case measure => rw [HI.out.1.left, HLF.out]; exact HLT4.out
  · go_enter Try.func20, Try.ntmps20
    go_wp2_with fail
    refine HC.out.mono ?_
    rintro e w1 ⟨rfl, hb⟩
    have HB := Lib.hid hb
    clear hb HC
    have b5 := (Below.refl w1.heap.size w1).alloc (Nat.le_refl _) (.cells #[.bool false, .bool false, .bool false, .bool false, .bool false, .bool false, .bool false, .bool false, .bool false, .bool false, .bool false, .bool false, .bool false] 73)
    have r5 : Row (w1.alloc (.cells #[.bool false, .bool false, .bool false, .bool false, .bool false, .bool false, .bool false, .bool false, .bool false, .bool false, .bool false, .bool false, .bool false] 73)) w1.heap.size 73 (markF []) := Row.new w1 73 _
    have R5 := Lib.hid r5
    have B5 := Lib.hid b5
    have BW5 := Lib.hid (Below.andThen HB.out b5 (Nat.le_refl _))
    have SZ5 := Lib.hid (size_al w1 (.cells #[.bool false, .bool false, .bool false, .bool false, .bool false, .bool false, .bool false, .bool false, .bool false, .bool false, .bool false, .bool false, .bool false] 73))
    clear b5 r5
    go_wp2_with fail
    refine (HR.out _ BW5.out).mono ?_
    rintro e w2 ⟨x, rfl, ⟨b, rfl, hsn⟩, hb⟩
    have HSN := Lib.hid hsn
    have R6 := Lib.hid (R5.out.below hb R5.out.lt)
    have BW6 := Lib.hid (Below.andThen BW5.out hb (Nat.le_refl _))
    have HBL := Lib.hid hb.size
    clear hsn hb R5 BW5 HR B5
    go_wp2_with (at_range; refine wpList_range_seen rfl _ 74 rfl Try.underlying74 b _ _ rfl HSN.out ?_; rintro w3 hrg hgr hsz)
    have hb3 : Below w2.heap.size w2 w3 := ⟨hgr.os, hgr.tape, hgr.output, hgr.size, fun k hk => hgr.block k hk (by simp)⟩
    have R7 := Lib.hid (R6.out.below hb3 R6.out.lt)
    have BW7 := Lib.hid (Below.andThen BW6.out hb3 (Nat.le_refl _))
    have HRG := Lib.hid hrg
    have HBS := Lib.hid HSN.out.lt
    have R6L := Lib.hid R6.out.lt
    have BW7L := Lib.hid (show w.heap.size ≤ w2.heap.size by have := BW6.out.size; omega)
    have HBNE := Lib.hid (show b ≠ w1.heap.size from fun e => by have h1 := hrg.lt.2; exact ne_blocks hrg R7.out e)
    clear hrg hgr hb3 R6 BW6 HSN hsz
    go_wp2_with fail
    go_frame
    go_loopw [] (fun wr => ∃ vis c, Hid (RngAt wr b w2.heap.size res.1.length (seenV res.1) vis c ∧ Row wr w1.heap.size 73 (markF (vis.flatMap (·.take 3))) ∧ Below w.heap.size w wr ∧ ∀ F ∈ vis, (seenV res.1 F).isSome = true)) (fun wr => wr.rangeLeft b w2.heap.size)
    case atStart => exact ⟨[], _, Lib.hid ⟨HRG.out, R7.out, BW7.out, fun F hF => by cases hF⟩⟩
    case round =>
      clear HRG R7 BW7
      obtain ⟨vis, c, HR⟩ := hrel
      go_wp2_with (at_next; refine wpList_next_seen rfl _ rfl b w2.heap.size _ _ vis c rfl HR.out.1 ?_ ?_)
      · intro hall
        have HM := Lib.hid (marks_all HT.out 3 hall HR.out.2.2.2)
        obtain ⟨m, hm⟩ : ∃ m : Nat → Bool, m = fun i : Nat => decide ((i : Int) ∈ vis.flatMap (·.take 3)) := ⟨_, rfl⟩
        have hc0 : ∀ i : Nat, i < 13 → wr.cell? ⟨w1.heap.size, i, none⟩ = some (.bool (m i)) := fun i hi => by rw [HR.out.2.1.cell, markF_get _ i hi, hm]
        rw [← hm] at HM
        have c0 := hc0 0 (by omega)
        have c1 := hc0 1 (by omega)
        have c2 := hc0 2 (by omega)
        have c3 := hc0 3 (by omega)
        have c4 := hc0 4 (by omega)
        have c5 := hc0 5 (by omega)
        have c6 := hc0 6 (by omega)
        have c7 := hc0 7 (by omega)
        have c8 := hc0 8 (by omega)
        have c9 := hc0 9 (by omega)
        have c10 := hc0 10 (by omega)
        have c11 := hc0 11 (by omega)
        have c12 := hc0 12 (by omega)
        have T := Lib.hid HR.out.2.2.1
        have EX := Lib.hid (fun (i : Nat) (hi : i < 13) (W : World) => idx13 m i hi W)
        clear hc0 hm hall HR
        go_wp2_with fail
        go_loopw [9, 36] (fun lv iv wx => ∃ k : Nat, k ≤ 13 ∧ iv = .int .i64 (k : Int) ∧ Hid (wx.ownsRow w.heap.size 3 1 lv (((List.range k).filter m).map (fun i : Nat => (i : Int))).length ((((List.range k).filter m).map (fun i : Nat => (i : Int))).map encI) ∧ Below w.heap.size w wx)) (fun _ iv _ => 13 - (intOf iv).toNat)
        case atStart => exact ⟨0, by omega, rfl, Lib.hid ⟨World.ownsRow_nil _ _ _ _, T.out⟩⟩
        case round =>
          clear T
          obtain ⟨k, hk, rfl, HO⟩ := hrel
          clear c0 c1 c2 c3 c4 c5 c6 c7 c8 c9 c10 c11 c12
          have kw : IntKind.i64.wrap ((k : Int) + 1) = ((k + 1 : Nat) : Int) := by rw [i64_of _ (by omega) (by omega)]; omega
          by_cases hlt : k < 13
          · have hd : decide ((k : Int) < 13) = true := decide_eq_true (by omega)
            have HE := EX.out k hlt
            have hsn := filter_snoc m k
            have hll : ((List.range k).filter m).length ≤ 13 := Nat.le_trans (List.length_filter_le _ _) (by rw [List.length_range]; exact hk)
            rw [← List.length_map (f := fun i : Nat => (i : Int))] at hll
            generalize ((List.range k).filter m).map (fun i : Nat => (i : Int)) = LL at *
            cases hmk : m k
            · rw [hmk, if_neg (by simp), List.append_nil] at hsn
              have HSN := Lib.hid hsn
              rw [hmk] at HE
              clear hsn hmk
              go_wp2_with fail
              go_roundw
              case rel => exact ⟨k + 1, by omega, by simp, by rw [HSN.out]; exact HO⟩
              case measure => simp [intOf]; omega
            · rw [hmk, if_pos rfl] at hsn
              have HSN := Lib.hid hsn
              rw [hmk] at HE
              clear hsn hmk
              go_wp2_with (at_builtin; refine wpList_append_own_at _ rfl _ _ 22 rfl w.heap.size 3 i0 (.int .i64 0) 1 8 Try.underlying22 hi hz0 hz1 hz2 rfl (by decide) _ _ _ rfl (HO.out.1.alloc _) _ 1 1 [encI (k : Int)] rfl rfl (cell_one_at _ _ _ _ (by simp)) (by simp [Value.oneCell', encI]) (by unfold maxLen; omega) (by omega) (Nat.le_trans HO.out.2.size (by simp)) ?_; intro v' w2' hown' hgrow hnil hat; have HR2 := Lib.hid hown'; have HB2 := Lib.hid (own_below HO.out.1 HO.out.2 hgrow); clear hown' hgrow hnil hat)
              go_roundw
              case rel => exact ⟨k + 1, by omega, by simp, by rw [HSN.out]; exact Lib.hid ⟨by simpa using HR2.out, HB2.out⟩⟩
              case measure => simp [intOf]; omega
          · have hd : decide ((k : Int) < 13) = false := decide_eq_false (by omega)
            obtain rfl : k = 13 := by omega
            go_wp2_with fail
            refine bodyPost_ret (v := .tuple #[u9, .int .i64 0]) (by simp [results, Try.results20, go_sem]) rfl ?_
            refine ⟨u9, rfl, ?_, HO.out.2⟩
            have h := HO.out.1
            rw [HM.out] at h
            exact h
      · intro F v4 w4 c4 hF hS hvis hrg4 hlt4 hgr4 hsz4 hen
        have HEN := hen
        obtain ⟨cF, hcF⟩ : ∃ cF, lookA res.1 F = some cF := by
          unfold seenV at hS
          cases hl : lookA res.1 F with
          | none => rw [hl] at hS; cases hS
          | some c => exact ⟨c, rfl⟩
        have hfF := (HT.out.fit hcF).1
        obtain ⟨q0, q1, q2, q3, rfl⟩ := agg4 F hF.1
        simp only [aggI, List.map_cons, List.map_nil, encI] at HEN ⊢
        have HV4 := Lib.hid hfF
        have R4 := Lib.hid (HR.out.2.1.kept hgr4 (fun e => by have := Option.some.inj e; have := R6L.out; omega))
        have HRG4 := Lib.hid hrg4
        have HLT4 := Lib.hid hlt4
        have T4 := Lib.hid (HR.out.2.2.1.grown hgr4 HR.out.2.2.1.size (fun k e => by have := Option.some.inj e; have := BW7L.out; omega))
        have HLF := Lib.hid HR.out.1.left
        have HSZ4 := Lib.hid hsz4
        have HVS := Lib.hid (show ∀ G ∈ [q0, q1, q2, q3] :: vis, (seenV res.1 G).isSome = true from fun G hG => by
          rcases List.mem_cons.1 hG with rfl | hG
          · rw [hS]; rfl
          · exact HR.out.2.2.2 G hG)
        clear hcF hfF hF hS hvis hrg4 hlt4 hgr4 hen HR
        have bF := (Below.refl w4.heap.size w4).alloc (Nat.le_refl _) (.cells #[.int .i64 q0, .int .i64 q1, .int .i64 q2, .int .i64 q3] 77)
        have rF := Row.new w4 77 [.int .i64 q0, .int .i64 q1, .int .i64 q2, .int .i64 q3]
        have RF := Lib.hid rF
        have R5 := Lib.hid (R4.out.below bF R4.out.lt)
        have HRG5 := Lib.hid (HRG4.out.grow bF)
        have T5 := Lib.hid (Below.andThen T4.out bF (Nat.le_refl _))
        clear bF rF
        have hwF := RF.out.lt
        go_wp2_with fail
        have HRF := Lib.hid (show Row (w4.alloc (.cells #[.int .i64 q0, .int .i64 q1, .int .i64 q2, .int .i64 q3] 77)) wr.heap.size 77 [.int .i64 q0, .int .i64 q1, .int .i64 q2, .int .i64 q3] by rw [← HSZ4.out]; exact RF.out)
        have HBW := Lib.hid (show w2.heap.size < wr.heap.size by rw [← HSZ4.out]; exact HRG4.out.lt.1)
        generalize hbf : wr.heap.size = BF at *
        clear hbf RF R4 HRG4 T4 hsz4 hwF
        go_loopw [28] (fun iv wx => ∃ k : Nat, k ≤ 3 ∧ iv = .int .i64 (k : Int) ∧ Hid (RngAt wx b w2.heap.size res.1.length (seenV res.1) ([q0, q1, q2, q3] :: vis) c4 ∧ Row wx BF 77 [.int .i64 q0, .int .i64 q1, .int .i64 q2, .int .i64 q3] ∧ Row wx w1.heap.size 73 (markF (([q0, q1, q2, q3].take k) ++ vis.flatMap (·.take 3))) ∧ Below w.heap.size w wx)) (fun iv _ => 3 - (intOf iv).toNat)
        case atStart => exact ⟨0, by omega, rfl, Lib.hid ⟨HRG5.out, HRF.out, R5.out, T5.out⟩⟩
        case round =>
          clear HRG5 HRF R5 T5
          obtain ⟨k, hk, rfl, HI⟩ := hrel
          have kw : IntKind.i64.wrap ((k : Int) + 1) = ((k + 1 : Nat) : Int) := by rw [i64_of _ (by omega) (by omega)]; omega
          by_cases hlt : k < 3
          · have hd : decide ((k : Int) < 3) = true := decide_eq_true (by omega)
            obtain ⟨qa, hqa, hqb⟩ : ∃ qa : Nat, [q0, q1, q2, q3][k]? = some (qa : Int) ∧ qa < 13 := by
              have h1 := HV4.out.2 k (by omega)
              have h2 : k < [q0, q1, q2, q3].length := by simp; omega
              rw [getD_lt h2] at h1
              exact ⟨[q0, q1, q2, q3][k].toNat, by rw [List.getElem?_eq_getElem h2]; congr 1; omega, by omega⟩
            have ck : wr.cell? ⟨BF, k, none⟩ = some (.int .i64 (qa : Int)) := by
              rw [HI.out.2.1.cell k, show ([.int .i64 q0, .int .i64 q1, .int .i64 q2, .int .i64 q3] : List Value) = [q0, q1, q2, q3].map encI from rfl, List.getElem?_map, hqa]; rfl
            have cm : wr.cell? ⟨w1.heap.size, qa, none⟩ = some (.bool (decide ((qa : Int) ∈ ([q0, q1, q2, q3].take k) ++ vis.flatMap (·.take 3)))) := by
              rw [HI.out.2.2.1.cell qa]; exact markF_get _ qa hqb
            have fm := frozen_of_row wr w1.heap.size qa _ _ HI.out.2.2.1
            have htk : markF (([q0, q1, q2, q3].take (k + 1)) ++ vis.flatMap (·.take 3)) = (markF (([q0, q1, q2, q3].take k) ++ vis.flatMap (·.take 3))).set qa (.bool true) := by
              rw [markF_set]
              refine markF_congr fun a _ => ?_
              rw [List.take_add_one, hqa]
              simp only [Option.toList_some, List.mem_append, List.mem_cons, List.mem_singleton, List.not_mem_nil, or_false]
              constructor
              · rintro ((h | h) | h)
                · exact .inr (.inl h)
                · exact .inl h
                · exact .inr (.inr h)
              · rintro (h | h | h)
                · exact .inl (.inr h)
                · exact .inl (.inl h)
                · exact .inr h
            have HTK := Lib.hid htk
            generalize decide ((qa : Int) ∈ ([q0, q1, q2, q3].take k) ++ vis.flatMap (·.take 3)) = mb at *
            clear htk hqa
            go_wp2_with fail
            go_roundw
            case rel =>
              have G := one_set wr w1.heap.size qa (.bool true)
              refine ⟨k + 1, by omega, by simp, Lib.hid ⟨HI.out.1.kept G (fun e => by have := Option.some.inj e; have := HBNE.out; omega) (fun e => by have := Option.some.inj e; have := R6L.out; omega), HI.out.2.1.kept G (fun e => by have := Option.some.inj e; have := R6L.out; have := HBW.out; omega), ?_, HI.out.2.2.2.grown G HI.out.2.2.2.size (fun k e => by have := Option.some.inj e; have := HB.out.size; omega)⟩⟩
              rw [HTK.out]
              exact HI.out.2.2.1.set qa (.bool true)
            case measure => simp [intOf]; omega
          · have hd : decide ((k : Int) < 3) = false := decide_eq_false (by omega)
            obtain rfl : k = 3 := by omega
            go_wp2_with fail
            go_roundw
            case rel => exact ⟨[q0, q1, q2, q3] :: vis, c4, Lib.hid ⟨HI.out.1, HI.out.2.2.1, HI.out.2.2.2, HVS.out⟩⟩
            case measure => rw [HI.out.1.left, HLF.out]; exact HLT4.out
  · go_enter Try.func20, Try.ntmps20
    go_wp2_with fail
    refine HC.out.mono ?_
    rintro e w1 ⟨rfl, hb⟩
    have HB := Lib.hid hb
    clear hb HC
    have b5 := (Below.refl w1.heap.size w1).alloc (Nat.le_refl _) (.cells #[.bool false, .bool false, .bool false, .bool false, .bool false, .bool false, .bool false, .bool false, .bool false, .bool false, .bool false, .bool false, .bool false] 73)
    have r5 : Row (w1.alloc (.cells #[.bool false, .bool false, .bool false, .bool false, .bool false, .bool false, .bool false, .bool false, .bool false, .bool false, .bool false, .bool false, .bool false] 73)) w1.heap.size 73 (markF []) := Row.new w1 73 _
    have R5 := Lib.hid r5
    have B5 := Lib.hid b5
    have BW5 := Lib.hid (Below.andThen HB.out b5 (Nat.le_refl _))
    have SZ5 := Lib.hid (size_al w1 (.cells #[.bool false, .bool false, .bool false, .bool false, .bool false, .bool false, .bool false, .bool false, .bool false, .bool false, .bool false, .bool false, .bool false] 73))
    clear b5 r5
    go_wp2_with fail
    refine (HR.out _ BW5.out).mono ?_
    rintro e w2 ⟨x, rfl, ⟨b, rfl, hsn⟩, hb⟩
    have HSN := Lib.hid hsn
    have R6 := Lib.hid (R5.out.below hb R5.out.lt)
    have BW6 := Lib.hid (Below.andThen BW5.out hb (Nat.le_refl _))
    have HBL := Lib.hid hb.size
    clear hsn hb R5 BW5 HR B5
    go_wp2_with (at_range; refine wpList_range_seen rfl _ 74 rfl Try.underlying74 b _ _ rfl HSN.out ?_; rintro w3 hrg hgr hsz)
    have hb3 : Below w2.heap.size w2 w3 := ⟨hgr.os, hgr.tape, hgr.output, hgr.size, fun k hk => hgr.block k hk (by simp)⟩
    have R7 := Lib.hid (R6.out.below hb3 R6.out.lt)
    have BW7 := Lib.hid (Below.andThen BW6.out hb3 (Nat.le_refl _))
    have HRG := Lib.hid hrg
    have HBS := Lib.hid HSN.out.lt
    have R6L := Lib.hid R6.out.lt
    have BW7L := Lib.hid (show w.heap.size ≤ w2.heap.size by have := BW6.out.size; omega)
    have HBNE := Lib.hid (show b ≠ w1.heap.size from fun e => by have h1 := hrg.lt.2; exact ne_blocks hrg R7.out e)
    clear hrg hgr hb3 R6 BW6 HSN hsz
    go_wp2_with fail
    go_frame
    go_loopw [] (fun wr => ∃ vis c, Hid (RngAt wr b w2.heap.size res.1.length (seenV res.1) vis c ∧ Row wr w1.heap.size 73 (markF (vis.flatMap (·.take 4))) ∧ Below w.heap.size w wr ∧ ∀ F ∈ vis, (seenV res.1 F).isSome = true)) (fun wr => wr.rangeLeft b w2.heap.size)
    case atStart => exact ⟨[], _, Lib.hid ⟨HRG.out, R7.out, BW7.out, fun F hF => by cases hF⟩⟩
    case round =>
      clear HRG R7 BW7
      obtain ⟨vis, c, HR⟩ := hrel
      go_wp2_with (at_next; refine wpList_next_seen rfl _ rfl b w2.heap.size _ _ vis c rfl HR.out.1 ?_ ?_)
      · intro hall
        have HM := Lib.hid (marks_all HT.out 4 hall HR.out.2.2.2)
        obtain ⟨m, hm⟩ : ∃ m : Nat → Bool, m = fun i : Nat => decide ((i : Int) ∈ vis.flatMap (·.take 4)) := ⟨_, rfl⟩
        have hc0 : ∀ i : Nat, i < 13 → wr.cell? ⟨w1.heap.size, i, none⟩ = some (.bool (m i)) := fun i hi => by rw [HR.out.2.1.cell, markF_get _ i hi, hm]
        rw [← hm] at HM
        have c0 := hc0 0 (by omega)
        have c1 := hc0 1 (by omega)
        have c2 := hc0 2 (by omega)
        have c3 := hc0 3 (by omega)
        have c4 := hc0 4 (by omega)
        have c5 := hc0 5 (by omega)
        have c6 := hc0 6 (by omega)
        have c7 := hc0 7 (by omega)
        have c8 := hc0 8 (by omega)
        have c9 := hc0 9 (by omega)
        have c10 := hc0 10 (by omega)
        have c11 := hc0 11 (by omega)
        have c12 := hc0 12 (by omega)
        have T := Lib.hid HR.out.2.2.1
        have EX := Lib.hid (fun (i : Nat) (hi : i < 13) (W : World) => idx13 m i hi W)
        clear hc0 hm hall HR
        go_wp2_with fail
        go_loopw [9, 36] (fun lv iv wx => ∃ k : Nat, k ≤ 13 ∧ iv = .int .i64 (k : Int) ∧ Hid (wx.ownsRow w.heap.size 3 1 lv (((List.range k).filter m).map (fun i : Nat => (i : Int))).length ((((List.range k).filter m).map (fun i : Nat => (i : Int))).map encI) ∧ Below w.heap.size w wx)) (fun _ iv _ => 13 - (intOf iv).toNat)
        case atStart => exact ⟨0, by omega, rfl, Lib.hid ⟨World.ownsRow_nil _ _ _ _, T.out⟩⟩
        case round =>
          clear T
          obtain ⟨k, hk, rfl, HO⟩ := hrel
          clear c0 c1 c2 c3 c4 c5 c6 c7 c8 c9 c10 c11 c12
          have kw : IntKind.i64.wrap ((k : Int) + 1) = ((k + 1 : Nat) : Int) := by rw [i64_of _ (by omega) (by omega)]; omega
          by_cases hlt : k < 13
          · have hd : decide ((k : Int) < 13) = true := decide_eq_true (by omega)
            have HE := EX.out k hlt
            have hsn := filter_snoc m k
            have hll : ((List.range k).filter m).length ≤ 13 := Nat.le_trans (List.length_filter_le _ _) (by rw [List.length_range]; exact hk)
            rw [← List.length_map (f := fun i : Nat => (i : Int))] at hll
            generalize ((List.range k).filter m).map (fun i : Nat => (i : Int)) = LL at *
            cases hmk : m k
            · rw [hmk, if_neg (by simp), List.append_nil] at hsn
              have HSN := Lib.hid hsn
              rw [hmk] at HE
              clear hsn hmk
              go_wp2_with fail
              go_roundw
              case rel => exact ⟨k + 1, by omega, by simp, by rw [HSN.out]; exact HO⟩
              case measure => simp [intOf]; omega
            · rw [hmk, if_pos rfl] at hsn
              have HSN := Lib.hid hsn
              rw [hmk] at HE
              clear hsn hmk
              go_wp2_with (at_builtin; refine wpList_append_own_at _ rfl _ _ 22 rfl w.heap.size 3 i0 (.int .i64 0) 1 8 Try.underlying22 hi hz0 hz1 hz2 rfl (by decide) _ _ _ rfl (HO.out.1.alloc _) _ 1 1 [encI (k : Int)] rfl rfl (cell_one_at _ _ _ _ (by simp)) (by simp [Value.oneCell', encI]) (by unfold maxLen; omega) (by omega) (Nat.le_trans HO.out.2.size (by simp)) ?_; intro v' w2' hown' hgrow hnil hat; have HR2 := Lib.hid hown'; have HB2 := Lib.hid (own_below HO.out.1 HO.out.2 hgrow); clear hown' hgrow hnil hat)
              go_roundw
              case rel => exact ⟨k + 1, by omega, by simp, by rw [HSN.out]; exact Lib.hid ⟨by simpa using HR2.out, HB2.out⟩⟩
              case measure => simp [intOf]; omega
          · have hd : decide ((k : Int) < 13) = false := decide_eq_false (by omega)
            obtain rfl : k = 13 := by omega
            go_wp2_with fail
            refine bodyPost_ret (v := .tuple #[u9, .int .i64 0]) (by simp [results, Try.results20, go_sem]) rfl ?_
            refine ⟨u9, rfl, ?_, HO.out.2⟩
            have h := HO.out.1
            rw [HM.out] at h
            exact h
      · intro F v4 w4 c4 hF hS hvis hrg4 hlt4 hgr4 hsz4 hen
        have HEN := hen
        obtain ⟨cF, hcF⟩ : ∃ cF, lookA res.1 F = some cF := by
          unfold seenV at hS
          cases hl : lookA res.1 F with
          | none => rw [hl] at hS; cases hS
          | some c => exact ⟨c, rfl⟩
        have hfF := (HT.out.fit hcF).1
        obtain ⟨q0, q1, q2, q3, rfl⟩ := agg4 F hF.1
        simp only [aggI, List.map_cons, List.map_nil, encI] at HEN ⊢
        have HV4 := Lib.hid hfF
        have R4 := Lib.hid (HR.out.2.1.kept hgr4 (fun e => by have := Option.some.inj e; have := R6L.out; omega))
        have HRG4 := Lib.hid hrg4
        have HLT4 := Lib.hid hlt4
        have T4 := Lib.hid (HR.out.2.2.1.grown hgr4 HR.out.2.2.1.size (fun k e => by have := Option.some.inj e; have := BW7L.out; omega))
        have HLF := Lib.hid HR.out.1.left
        have HSZ4 := Lib.hid hsz4
        have HVS := Lib.hid (show ∀ G ∈ [q0, q1, q2, q3] :: vis, (seenV res.1 G).isSome = true from fun G hG => by
          rcases List.mem_cons.1 hG with rfl | hG
          · rw [hS]; rfl
          · exact HR.out.2.2.2 G hG)
        clear hcF hfF hF hS hvis hrg4 hlt4 hgr4 hen HR
        have bF := (Below.refl w4.heap.size w4).alloc (Nat.le_refl _) (.cells #[.int .i64 q0, .int .i64 q1, .int .i64 q2, .int .i64 q3] 77)
        have rF := Row.new w4 77 [.int .i64 q0, .int .i64 q1, .int .i64 q2, .int .i64 q3]
        have RF := Lib.hid rF
        have R5 := Lib.hid (R4.out.below bF R4.out.lt)
        have HRG5 := Lib.hid (HRG4.out.grow bF)
        have T5 := Lib.hid (Below.andThen T4.out bF (Nat.le_refl _))
        clear bF rF
        have hwF := RF.out.lt
        go_wp2_with fail
        have HRF := Lib.hid (show Row (w4.alloc (.cells #[.int .i64 q0, .int .i64 q1, .int .i64 q2, .int .i64 q3] 77)) wr.heap.size 77 [.int .i64 q0, .int .i64 q1, .int .i64 q2, .int .i64 q3] by rw [← HSZ4.out]; exact RF.out)
        have HBW := Lib.hid (show w2.heap.size < wr.heap.size by rw [← HSZ4.out]; exact HRG4.out.lt.1)
        generalize hbf : wr.heap.size = BF at *
        clear hbf RF R4 HRG4 T4 hsz4 hwF
        go_loopw [28] (fun iv wx => ∃ k : Nat, k ≤ 4 ∧ iv = .int .i64 (k : Int) ∧ Hid (RngAt wx b w2.heap.size res.1.length (seenV res.1) ([q0, q1, q2, q3] :: vis) c4 ∧ Row wx BF 77 [.int .i64 q0, .int .i64 q1, .int .i64 q2, .int .i64 q3] ∧ Row wx w1.heap.size 73 (markF (([q0, q1, q2, q3].take k) ++ vis.flatMap (·.take 4))) ∧ Below w.heap.size w wx)) (fun iv _ => 4 - (intOf iv).toNat)
        case atStart => exact ⟨0, by omega, rfl, Lib.hid ⟨HRG5.out, HRF.out, R5.out, T5.out⟩⟩
        case round =>
          clear HRG5 HRF R5 T5
          obtain ⟨k, hk, rfl, HI⟩ := hrel
          have kw : IntKind.i64.wrap ((k : Int) + 1) = ((k + 1 : Nat) : Int) := by rw [i64_of _ (by omega) (by omega)]; omega
          by_cases hlt : k < 4
          · have hd : decide ((k : Int) < 4) = true := decide_eq_true (by omega)
            obtain ⟨qa, hqa, hqb⟩ : ∃ qa : Nat, [q0, q1, q2, q3][k]? = some (qa : Int) ∧ qa < 13 := by
              have h1 := HV4.out.2 k (by omega)
              have h2 : k < [q0, q1, q2, q3].length := by simp; omega
              rw [getD_lt h2] at h1
              exact ⟨[q0, q1, q2, q3][k].toNat, by rw [List.getElem?_eq_getElem h2]; congr 1; omega, by omega⟩
            have ck : wr.cell? ⟨BF, k, none⟩ = some (.int .i64 (qa : Int)) := by
              rw [HI.out.2.1.cell k, show ([.int .i64 q0, .int .i64 q1, .int .i64 q2, .int .i64 q3] : List Value) = [q0, q1, q2, q3].map encI from rfl, List.getElem?_map, hqa]; rfl
            have cm : wr.cell? ⟨w1.heap.size, qa, none⟩ = some (.bool (decide ((qa : Int) ∈ ([q0, q1, q2, q3].take k) ++ vis.flatMap (·.take 4)))) := by
              rw [HI.out.2.2.1.cell qa]; exact markF_get _ qa hqb
            have fm := frozen_of_row wr w1.heap.size qa _ _ HI.out.2.2.1
            have htk : markF (([q0, q1, q2, q3].take (k + 1)) ++ vis.flatMap (·.take 4)) = (markF (([q0, q1, q2, q3].take k) ++ vis.flatMap (·.take 4))).set qa (.bool true) := by
              rw [markF_set]
              refine markF_congr fun a _ => ?_
              rw [List.take_add_one, hqa]
              simp only [Option.toList_some, List.mem_append, List.mem_cons, List.mem_singleton, List.not_mem_nil, or_false]
              constructor
              · rintro ((h | h) | h)
                · exact .inr (.inl h)
                · exact .inl h
                · exact .inr (.inr h)
              · rintro (h | h | h)
                · exact .inl (.inr h)
                · exact .inl (.inl h)
                · exact .inr h
            have HTK := Lib.hid htk
            generalize decide ((qa : Int) ∈ ([q0, q1, q2, q3].take k) ++ vis.flatMap (·.take 4)) = mb at *
            clear htk hqa
            go_wp2_with fail
            go_roundw
            case rel =>
              have G := one_set wr w1.heap.size qa (.bool true)
              refine ⟨k + 1, by omega, by simp, Lib.hid ⟨HI.out.1.kept G (fun e => by have := Option.some.inj e; have := HBNE.out; omega) (fun e => by have := Option.some.inj e; have := R6L.out; omega), HI.out.2.1.kept G (fun e => by have := Option.some.inj e; have := R6L.out; have := HBW.out; omega), ?_, HI.out.2.2.2.grown G HI.out.2.2.2.size (fun k e => by have := Option.some.inj e; have := HB.out.size; omega)⟩⟩
              rw [HTK.out]
              exact HI.out.2.2.1.set qa (.bool true)
            case measure => simp [intOf]; omega
          · have hd : decide ((k : Int) < 4) = false := decide_eq_false (by omega)
            obtain rfl : k = 4 := by omega
            go_wp2_with fail
            go_roundw
            case rel => exact ⟨[q0, q1, q2, q3] :: vis, c4, Lib.hid ⟨HI.out.1, HI.out.2.2.1, HI.out.2.2.2, HVS.out⟩⟩
            case measure => rw [HI.out.1.left, HLF.out]; exact HLT4.out
end Go.Proofs.Ytlamppplnojpbaa
