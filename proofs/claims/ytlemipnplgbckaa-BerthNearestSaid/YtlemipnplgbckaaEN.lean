import Derived.Test.YtlemipnplgbckaaEA
import Derived.Test.YtlemipnplgbckaaMF
import Derived.Laws.AppendOwn
import Derived.ChangeKeysEq
import Derived.Maps.RangeWalk
import Derived.Maps.OwnIn
import Derived.Maps.AppendAt
import Derived.RangeFuncNested
import Derived.RangeFuncBound
import Derived.RangeFuncCalls
import Derived.RangeFuncLeaves
import Derived.Shelf.Abstract
import Derived.Shelf.RegionOpen
import Derived.WalkKit
import Derived.WalkMore
import Derived.OwnWalkIn
import Derived.TacticsInMore
import Derived.LoopNIn
import Derived.LoopIn
import Derived.WalkSpells
import Derived.WalkLawsBesides
import Derived.BigQuiet
import Derived.Deep.QuietTactic
import Derived.Lib.Hide
import Derived.Deep.RegionHeld3
import Derived.StillTailTactics
import Derived.Deep.LoopGhost
import Derived.Maps.OwnSet
import Derived.Lib.IndexAny
import Derived.Sort.QuietThIn
import Derived.Sort.QuietTacIn
import Derived.Sort.BigQuietIn
import Derived.Laws.OwnMore
import Derived.DeepKeys4
import Derived.Maps.Views
import Derived.Maps.OwnOps
import Derived.Deep.DeepCutAuto
import Derived.Shelf.Bits.Mul64
import Derived.Shelf.LaysM
namespace Go.Proofs.Ytlemipnplgbckaa
open Go.RowKit Go.Shelf
attribute [local go_sem] Oper.semAt_some
theorem own_sl {W : World} {n₀ k e s : Nat} {v : Value} {xs : List Value} (h : W.ownsRow n₀ e s v k xs) : ∃ a c, v = .slice a k c := by
  rcases h.2 with ⟨e, h0⟩ | ⟨g, cap, cur, e, _⟩
  · exact ⟨_, _, by rw [e, h0]⟩
  · exact ⟨_, _, e⟩
/-- one integer more -/
theorem app3_one (W : World) (n₀ : Nat) (v : Value) (k : Nat) (xs : List Value) (x : Int) (g : Nat) (h : W.ownsRow n₀ 3 1 v k xs) (hn : n₀ ≤ W.heap.size) (hl : k ≤ 100000) (hr : Row W g 3 [.int .i64 x]) :
    ∃ v' W', (Builtin.append_ #[35, 35] 35 #[v, .slice (some ⟨g, 0, none⟩) 1 1]).run Try.prog W = .ok v' W' ∧ W'.ownsRow n₀ 3 1 v' (k + 1) (xs ++ [.int .i64 x]) ∧ Below n₀ W W' := by
  obtain ⟨i0, hi, hz0, hz1, hz2⟩ := info_parts info3
  obtain ⟨v', W', h1, h2, h3, _, _⟩ := run_append_own_at (P := Try.prog) (w := W) n₀ 35 35 3 i0 (.int .i64 0) 1 8 Try.underlying35 hi hz0 hz1 hz2 rfl (by decide) v k xs h
    ⟨g, 0, none⟩ 1 1 [.int .i64 x] rfl (fun j u hu => by
      rw [Go.WideShapes.add_plain, Nat.zero_add, hr.cell]; exact hu) (by simp [Value.oneCell']) (by unfold maxLen; omega) (by omega) hn
  exact ⟨v', W', h1, h2, (Below.refl n₀ W).grown h3 hn (fun r e => (World.ownsRow.lt h r e).1)⟩
theorem wh_next (ps : List Pt) (f : Pt → Bool) (k : Nat) : (whK ps f (k + 1)).map (fun n : Nat => encI (n : Int)) = (whK ps f k).map (fun n : Nat => encI (n : Int)) ++ if f (ptAt ps k) = true then [.int .i64 (k : Int)] else [] := by
  rw [whK_step, List.map_append]
  split <;> rfl
theorem wh_nextL (ps : List Pt) (f : Pt → Bool) (k : Nat) : (whK ps f (k + 1)).length = (whK ps f k).length + if f (ptAt ps k) = true then 1 else 0 := by
  rw [whK_step, List.length_append]
  split <;> rfl
/-- the greatest of the first k measures, and 0 -/
def hiK (m : Pt → Int) (ps : List Pt) (k : Nat) : Int := (ps.take k).foldl (fun a p => max a (m p)) 0
theorem hiK_zero (m : Pt → Int) (ps : List Pt) : hiK m ps 0 = 0 := rfl
theorem hiK_step {m : Pt → Int} {ps : List Pt} {k : Nat} (h : k < ps.length) : hiK m ps (k + 1) = max (hiK m ps k) (m (ptAt ps k)) := by
  unfold hiK
  rw [List.take_succ_eq_append_getElem h, List.foldl_append, ptAt_lt h]; rfl
theorem hiK_ge (m : Pt → Int) (ps : List Pt) : ∀ k, k ≤ ps.length → ∀ i, i < k → m (ptAt ps i) ≤ hiK m ps k
  | 0, _, i, hi => by omega
  | k + 1, hk, i, hi => by
    rw [hiK_step (by omega)]
    by_cases h : i = k
    · subst h; omega
    · have := hiK_ge m ps k (by omega) i (by omega); omega
theorem hiK_at (m : Pt → Int) (ps : List Pt) : ∀ k, k ≤ ps.length → hiK m ps k = 0 ∨ ∃ i, i < ps.length ∧ hiK m ps k = m (ptAt ps i)
  | 0, _ => .inl rfl
  | k + 1, hk => by
    rw [hiK_step (by omega)]
    rcases hiK_at m ps k (by omega) with h | ⟨i, hi, h⟩
    · by_cases hm : m (ptAt ps k) ≤ 0
      · left; omega
      · exact .inr ⟨k, by omega, by omega⟩
    · by_cases hm : m (ptAt ps k) ≤ hiK m ps k
      · exact .inr ⟨i, hi, by omega⟩
      · exact .inr ⟨k, by omega, by omega⟩
theorem hi_low {m : Pt → Int} {ps : List Pt} (h0 : 0 < ps.length) (hm : ∀ p, 0 ≤ m p) : hiK m ps ps.length = - lowK (fun q => - m q) ps ps.length := by
  obtain ⟨i, hi, e1⟩ := lowK_at (fun q => - m q) ps h0 ps.length (Nat.le_refl _)
  have h1 := hiK_ge m ps ps.length (Nat.le_refl _) i hi
  have h2 := hm (ptAt ps i)
  rcases hiK_at m ps ps.length (Nat.le_refl _) with e | ⟨j, hj, e⟩
  · omega
  · have := lowK_le (fun q => - m q) ps ps.length (Nat.le_refl _) j hj
    omega
theorem far_eq {ps : List Pt} {p : Pt} (h0 : 0 < ps.length) : FarthestL ps p = whL ps (fun q => decide (fd q p = hiK (fun q => fd q p) ps ps.length)) := by
  unfold FarthestL
  congr 1
  funext q
  rw [hi_low h0 (fun q => fd_nn q p), Bool.eq_iff_iff, decide_eq_true_iff, decide_eq_true_iff]
  omega
theorem lowK_zero (m : Pt → Int) (ps : List Pt) : lowK m ps 0 = m (ptAt ps 0) := rfl
set_option maxRecDepth 100000 in
set_option maxHeartbeats 1000000 in
theorem rAt_any (ps : List Pt) (v : Value) (x y d : Int) (w : World) (hv : SlP w v ps) (hl : ps.length ≤ 12) (hpb : ∀ p ∈ ps, Bd 20 p.1 ∧ Bd 20 p.2) (hx : Bd 20 x) (hy : Bd 20 y) :
    Calls Try.prog 81 #[v, .agg #[.int .i64 x, .int .i64 y], .int .i64 d] w fun e w' => ∃ s, e = .returned s ∧ w'.ownsRow w.heap.size 3 1 s (whL ps (fun p => decide (fd p (x, y) = d))).length ((whL ps (fun p => decide (fd p (x, y) = d))).map (fun n : Nat => encI (n : Int))) ∧ Below w.heap.size w w' := by
  obtain ⟨a, c, rfl, hc, hs⟩ := hv
  have HS := Lib.hid hs
  have HPB := Lib.hid hpb

  obtain ⟨gl, hgl⟩ : ∃ f, ((fun p => decide (fd p (x, y) = d))) = f := ⟨_, rfl⟩
  rw [hgl]
  have HGL := Lib.hid hgl
  have HL := Lib.hid (show whL ps gl = whK ps gl ps.length from rfl)
  rw [HL.out]
  obtain ⟨n, hn⟩ : ∃ n, ps.length = n := ⟨_, rfl⟩
  have HN := Lib.hid hn
  rw [hn] at hl hc ⊢
  clear hs hpb hgl HL hn
  obtain ⟨bb, rr⟩ := box_start w 28 [.int .i64 x, .int .i64 y]
  have BB := Lib.hid bb
  have RB := Lib.hid rr
  clear bb rr
  go_enter Try.func81, Try.ntmps81
  go_wp2_with fail
  go_loopw [8, 7] (fun iv lv wr => ∃ k : Nat, k ≤ n ∧ iv = .int .i64 (k : Int) ∧ Hid (wr.ownsRow (w.heap.size + 1) 3 1 lv (whK ps gl k).length ((whK ps gl k).map (fun n : Nat => encI (n : Int))) ∧ Below w.heap.size w wr ∧ Row wr w.heap.size 28 [.int .i64 x, .int .i64 y])) (fun iv _ _ => (n - intOf iv).toNat)
  case atStart => exact ⟨0, by omega, rfl, Lib.hid ⟨World.ownsRow_nil _ _ _ _, BB.out, RB.out⟩⟩
  case round =>
    obtain ⟨k, hk, rfl, HB⟩ := hrel
    obtain ⟨ao, co, rfl⟩ := own_sl HB.out.1
    have kw : IntKind.i64.wrap ((k : Int) + 1) = ((k + 1 : Nat) : Int) := by rw [i64_of _ (by omega) (by omega)]; omega
    have HLN := Lib.hid (whK_len ps gl k)
    have HST := Lib.hid (wh_next ps gl k)
    have HSL := Lib.hid (wh_nextL ps gl k)
    by_cases hlt : k < n
    · have hd : decide ((k : Int) < (n : Int)) = true := decide_eq_true (by omega)
      have hdn : decide (k < n) = true := decide_eq_true hlt
      obtain ⟨g, o, rfl, hps⟩ : ∃ g o, a = some ⟨g, o, none⟩ ∧ PtsAt w g o ps := HS.out.resolve_left (fun e => by have := HN.out; rw [e] at this; simp at this; omega)
      have hk1 : (k : Int) < (n : Int) := by omega
      have HK1 := Lib.hid hk1
      have HPK := Lib.hid (fun W (hb : Below wr.heap.size wr W) => pt_cell hps (Below.andThen HB.out.2.1 hb (Nat.le_refl _)) HN.out hlt)
      have HBK := Lib.hid (pt_bd HPB.out HN.out hlt)
      have HRB := Lib.hid HB.out.2.2
      clear hps hk1
      have hst := HST.out
      have hsl := HSL.out
      rw [← congrFun HGL.out (ptAt ps k)] at hst hsl
      have HST := Lib.hid hst
      have HSL := Lib.hid hsl
      clear hst hsl
      generalize ptAt ps k = pk at *
      obtain ⟨ak, bk⟩ := pk
      dsimp only at HPK HBK HST HSL
      have HFR := Lib.hid (fun W : World => Far_any ak bk x y W HBK.out.1 HBK.out.2 hx hy)
      obtain ⟨E, hE⟩ : ∃ E, decide (fd (ak, bk) (x, y) = d) = E := ⟨_, rfl⟩
      have hE2 : (fd (ak, bk) (x, y) == d) = E := by rw [← hE]; rfl
      have HEE := Lib.hid (And.intro hE hE2)
      simp only [hE] at HST HSL
      clear hE hE2
      generalize fd (ak, bk) (x, y) = FV at *
      generalize hLL : (whK ps gl k).length = LL at *
      have HLL := Lib.hid hLL
      clear hLL
      go_wp2_with fail
      refine wp_region_box (by kernel_rfl) (by kernel_rfl) [15, 16, 17, 18, 19, 20, 21, 22] [(fun v => v = .slice (some ⟨g, o, none⟩) n c), (fun v => v = .int .i64 (k : Int)), (fun v => v = .pointer (some ⟨g, o + k * 2, none⟩)), (fun v => v = .agg #[.int .i64 ak, .int .i64 bk]), (fun v => v = .agg #[.int .i64 x, .int .i64 y]), (fun v => v = .int .i64 FV), (fun v => v = .int .i64 d), (fun v => v = .bool E)] [none, none, none, none, none, none, none, none] [none, none, none, none, none, none, none, none] 8 rfl (by kernel_rfl) ?tr ⟨_, (putAll_self _ _).symm, rfl⟩ ?steps ?fin
      case tr =>
        rintro i v h
        rcases i with _ | _ | _ | _ | _ | _ | _ | _ | i
        all_goals first | trivial | (exfalso; rcases h with h | h <;> simp at h)
      case steps =>
        simp only [boxSteps, Nat.reduceAdd, Nat.zero_add, List.getD_cons_succ, List.getD_cons_zero]
        refine ⟨?_, ?_, ?_, ?_, ?_, ?_, ?_, ?_, trivial⟩
        · rintro vs W K hc hvl hw hK
          obtain ⟨x0, x1, x2, x3, x4, x5, x6, x7, rfl⟩ := len8 hvl
          have HK := Lib.hid hK
          have HC := Lib.hid hc
          have HW := Lib.hid hw
          clear hK hc hw hvl
          simp only [putAll, Act.put, List.setIfInBounds_toArray, List.set_cons_succ, List.set_cons_zero]
          clear HW
          go_wp2_with fail
          have fin := HK.out (.slice (some ⟨g, o, none⟩) n c) W (Below.refl _ _) rfl
          simp only [putAll, Act.put, List.setIfInBounds_toArray, List.set_cons_succ, List.set_cons_zero] at fin
          exact fin
        · rintro vs W K hc hvl hw hK
          obtain ⟨x0, x1, x2, x3, x4, x5, x6, x7, rfl⟩ := len8 hvl
          have HK := Lib.hid hK
          have HC := Lib.hid hc
          have HW := Lib.hid hw
          clear hK hc hw hvl
          simp only [putAll, Act.put, List.setIfInBounds_toArray, List.set_cons_succ, List.set_cons_zero]
          clear HW
          go_wp2_with fail
          have fin := HK.out (.int .i64 (k : Int)) W (Below.refl _ _) rfl
          simp only [putAll, Act.put, List.setIfInBounds_toArray, List.set_cons_succ, List.set_cons_zero] at fin
          exact fin
        · rintro vs W K hc hvl hw hK
          obtain ⟨x0, x1, x2, x3, x4, x5, x6, x7, rfl⟩ := len8 hvl
          have HK := Lib.hid hK
          have HC := Lib.hid hc
          have HW := Lib.hid hw
          clear hK hc hw hvl
          obtain rfl : x0 = .slice (some ⟨g, o, none⟩) n c := box_get (HW.out ⟨0, .data⟩ (by simp) rfl) rfl
          obtain rfl : x1 = .int .i64 (k : Int) := box_get (HW.out ⟨1, .data⟩ (by simp) rfl) rfl
          simp only [putAll, Act.put, List.setIfInBounds_toArray, List.set_cons_succ, List.set_cons_zero]
          have hi1 := HK1.out
          clear HW
          go_wp2_with fail
          have fin := HK.out (.pointer (some ⟨g, o + k * 2, none⟩)) W (Below.refl _ _) rfl
          simp only [putAll, Act.put, List.setIfInBounds_toArray, List.set_cons_succ, List.set_cons_zero] at fin
          exact fin
        · rintro vs W K hc hvl hw hK
          obtain ⟨x0, x1, x2, x3, x4, x5, x6, x7, rfl⟩ := len8 hvl
          have HK := Lib.hid hK
          have HC := Lib.hid hc
          have HW := Lib.hid hw
          clear hK hc hw hvl
          obtain rfl : x2 = .pointer (some ⟨g, o + k * 2, none⟩) := box_get (HW.out ⟨2, .data⟩ (by simp) rfl) rfl
          simp only [putAll, Act.put, List.setIfInBounds_toArray, List.set_cons_succ, List.set_cons_zero]
          have d0 := (HPK.out W HC.out).1
          have d1 := (HPK.out W HC.out).2
          clear HW
          go_wp2_with fail
          have fin := HK.out (.agg #[.int .i64 ak, .int .i64 bk]) W (Below.refl _ _) rfl
          simp only [putAll, Act.put, List.setIfInBounds_toArray, List.set_cons_succ, List.set_cons_zero] at fin
          exact fin
        · rintro vs W K hc hvl hw hK
          obtain ⟨x0, x1, x2, x3, x4, x5, x6, x7, rfl⟩ := len8 hvl
          have HK := Lib.hid hK
          have HC := Lib.hid hc
          have HW := Lib.hid hw
          clear hK hc hw hvl
          simp only [putAll, Act.put, List.setIfInBounds_toArray, List.set_cons_succ, List.set_cons_zero]
          have rr := HRB.out.below HC.out HRB.out.lt
          have d0 := rr.cell 0
          have d1 := rr.cell 1
          simp only [List.getElem?_cons_zero, List.getElem?_cons_succ] at d0 d1
          clear rr
          clear HW
          go_wp2_with fail
          have fin := HK.out (.agg #[.int .i64 x, .int .i64 y]) W (Below.refl _ _) rfl
          simp only [putAll, Act.put, List.setIfInBounds_toArray, List.set_cons_succ, List.set_cons_zero] at fin
          exact fin
        · rintro vs W K hc hvl hw hK
          obtain ⟨x0, x1, x2, x3, x4, x5, x6, x7, rfl⟩ := len8 hvl
          have HK := Lib.hid hK
          have HC := Lib.hid hc
          have HW := Lib.hid hw
          clear hK hc hw hvl
          obtain rfl : x3 = .agg #[.int .i64 ak, .int .i64 bk] := box_get (HW.out ⟨3, .data⟩ (by simp) rfl) rfl
          obtain rfl : x4 = .agg #[.int .i64 x, .int .i64 y] := box_get (HW.out ⟨4, .data⟩ (by simp) rfl) rfl
          simp only [putAll, Act.put, List.setIfInBounds_toArray, List.set_cons_succ, List.set_cons_zero]
          clear HW
          go_wp2_with fail
          refine (HFR.out W).mono ?_
          rintro e W' ⟨rfl, hb'⟩
          have HB' := Lib.hid hb'
          clear hb'
          go_wp2_with fail
          have fin := HK.out (.int .i64 FV) W' HB'.out rfl
          simp only [putAll, Act.put, List.setIfInBounds_toArray, List.set_cons_succ, List.set_cons_zero] at fin
          exact fin
        · rintro vs W K hc hvl hw hK
          obtain ⟨x0, x1, x2, x3, x4, x5, x6, x7, rfl⟩ := len8 hvl
          have HK := Lib.hid hK
          have HC := Lib.hid hc
          have HW := Lib.hid hw
          clear hK hc hw hvl
          simp only [putAll, Act.put, List.setIfInBounds_toArray, List.set_cons_succ, List.set_cons_zero]
          clear HW
          go_wp2_with fail
          have fin := HK.out (.int .i64 d) W (Below.refl _ _) rfl
          simp only [putAll, Act.put, List.setIfInBounds_toArray, List.set_cons_succ, List.set_cons_zero] at fin
          exact fin
        · rintro vs W K hc hvl hw hK
          obtain ⟨x0, x1, x2, x3, x4, x5, x6, x7, rfl⟩ := len8 hvl
          have HK := Lib.hid hK
          have HC := Lib.hid hc
          have HW := Lib.hid hw
          clear hK hc hw hvl
          obtain rfl : x5 = .int .i64 FV := box_get (HW.out ⟨5, .data⟩ (by simp) rfl) rfl
          obtain rfl : x6 = .int .i64 d := box_get (HW.out ⟨6, .data⟩ (by simp) rfl) rfl
          simp only [putAll, Act.put, List.setIfInBounds_toArray, List.set_cons_succ, List.set_cons_zero]
          have e1 := HEE.out.1
          have e2 := HEE.out.2
          clear HW
          go_wp2_with fail
          have fin := HK.out (.bool E) W (Below.refl _ _) rfl
          simp only [putAll, Act.put, List.setIfInBounds_toArray, List.set_cons_succ, List.set_cons_zero] at fin
          exact fin
      case fin =>
        rintro vs W hJ
        obtain ⟨x0, x1, x2, x3, x4, x5, x6, x7, rfl⟩ := len8 hJ.ln
        obtain rfl : x7 = .bool E := box_get (hJ.val 7 rfl) rfl
        have HC := Lib.hid hJ.bl
        clear hJ
        simp only [putAll, Act.put, List.setIfInBounds_toArray, List.set_cons_succ, List.set_cons_zero]
        cases E with
        | true =>
          obtain ⟨b3, r3⟩ := box_start W 3 [.int .i64 (k : Int)]
          have hbw := Below.andThen HB.out.2.1 (Below.andThen HC.out b3 (Nat.le_refl _)) (Nat.le_refl _)
          have HLE := Lib.hid (show w.heap.size + 1 ≤ (W.alloc (.cells [.int .i64 (k : Int)].toArray 3)).heap.size from Nat.le_trans (Nat.succ_le_of_lt HRB.out.lt) (Nat.le_trans HC.out.size b3.size))
          obtain ⟨v', W', e1, e2, e3⟩ := app3_one _ (w.heap.size + 1) _ _ _ (k : Int) W.heap.size (own_grow (own_grow HB.out.1 HC.out) b3) HLE.out (by have := HLN.out; have := HLL.out; omega) r3
          obtain ⟨a4, c4, rfl⟩ := own_sl e2
          have A4 := Lib.hid e1
          have O4 := Lib.hid e2
          have B4 := Lib.hid (hbw.trans (e3.mono (by omega)))
          have R4 := Lib.hid ((HRB.out.below (Below.andThen HC.out b3 (Nat.le_refl _)) HRB.out.lt))
          have R5 := Lib.hid (show Row W' w.heap.size 28 [.int .i64 x, .int .i64 y] from R4.out.below e3 (by omega))
          clear b3 r3 hbw e1 e2 e3
          go_wp2_with (at_builtin; refine wpList_append_run rfl _ _ 35 rfl _ _ _ _ rfl rfl A4.out ?_)
          refine ⟨⟨k + 1, by omega, rfl, ?_⟩, by simp [intOf]; omega⟩
          rw [HST.out, HSL.out, if_pos (by rfl), if_pos (by rfl)]
          exact Lib.hid ⟨O4.out, B4.out, R5.out⟩
        | false =>
          go_wp2_with fail
          refine ⟨⟨k + 1, by omega, rfl, ?_⟩, by simp [intOf]; omega⟩
          rw [HST.out, HSL.out, if_neg (by simp), if_neg (by simp), List.append_nil, Nat.add_zero]
          exact Lib.hid ⟨own_grow HB.out.1 HC.out, Below.andThen HB.out.2.1 HC.out (Nat.le_refl _), HRB.out.below HC.out HRB.out.lt⟩
    · have hd : decide ((k : Int) < (n : Int)) = false := decide_eq_false (by omega)
      have hdn : decide (k < n) = false := decide_eq_false hlt
      obtain rfl : k = n := by omega
      go_wp2_with fail
      refine bodyPost_ret (v := .slice ao (whK ps gl k).length co) (by simp [results, Try.results81, go_sem]) rfl ⟨_, rfl, owns_mono HB.out.1 (by omega), HB.out.2.1⟩
set_option maxRecDepth 100000 in
set_option maxHeartbeats 1000000 in
theorem rOn_any (ps : List Pt) (v : Value) (C : Cir) (w : World) (hv : SlP w v ps) (hl : ps.length ≤ 12) (hpb : ∀ p ∈ ps, Bd 20 p.1 ∧ Bd 20 p.2) (hcb : CirB C) :
    Calls Try.prog 45 #[v, .agg #[.int .i64 C.X, .int .i64 C.Y, .int .i64 C.D, .int .i64 C.R]] w fun e w' => ∃ s, e = .returned s ∧ w'.ownsRow w.heap.size 3 1 s (whL ps (fun p => decide (whF C p = 0))).length ((whL ps (fun p => decide (whF C p = 0))).map (fun n : Nat => encI (n : Int))) ∧ Below w.heap.size w w' := by
  obtain ⟨a, c, rfl, hc, hs⟩ := hv
  have HS := Lib.hid hs
  have HPB := Lib.hid hpb

  obtain ⟨gl, hgl⟩ : ∃ f, ((fun p => decide (whF C p = 0))) = f := ⟨_, rfl⟩
  rw [hgl]
  have HGL := Lib.hid hgl
  have HL := Lib.hid (show whL ps gl = whK ps gl ps.length from rfl)
  rw [HL.out]
  obtain ⟨n, hn⟩ : ∃ n, ps.length = n := ⟨_, rfl⟩
  have HN := Lib.hid hn
  rw [hn] at hl hc ⊢
  clear hs hpb hgl HL hn
  obtain ⟨bb, rr⟩ := box_start w 46 [.int .i64 C.X, .int .i64 C.Y, .int .i64 C.D, .int .i64 C.R]
  have BB := Lib.hid bb
  have RB := Lib.hid rr
  clear bb rr
  go_enter Try.func45, Try.ntmps45
  go_wp2_with fail
  go_loopw [6, 5] (fun iv lv wr => ∃ k : Nat, k ≤ n ∧ iv = .int .i64 (k : Int) ∧ Hid (wr.ownsRow (w.heap.size + 1) 3 1 lv (whK ps gl k).length ((whK ps gl k).map (fun n : Nat => encI (n : Int))) ∧ Below w.heap.size w wr ∧ Row wr w.heap.size 46 [.int .i64 C.X, .int .i64 C.Y, .int .i64 C.D, .int .i64 C.R])) (fun iv _ _ => (n - intOf iv).toNat)
  case atStart => exact ⟨0, by omega, rfl, Lib.hid ⟨World.ownsRow_nil _ _ _ _, BB.out, RB.out⟩⟩
  case round =>
    obtain ⟨k, hk, rfl, HB⟩ := hrel
    obtain ⟨ao, co, rfl⟩ := own_sl HB.out.1
    have kw : IntKind.i64.wrap ((k : Int) + 1) = ((k + 1 : Nat) : Int) := by rw [i64_of _ (by omega) (by omega)]; omega
    have HLN := Lib.hid (whK_len ps gl k)
    have HST := Lib.hid (wh_next ps gl k)
    have HSL := Lib.hid (wh_nextL ps gl k)
    by_cases hlt : k < n
    · have hd : decide ((k : Int) < (n : Int)) = true := decide_eq_true (by omega)
      have hdn : decide (k < n) = true := decide_eq_true hlt
      obtain ⟨g, o, rfl, hps⟩ : ∃ g o, a = some ⟨g, o, none⟩ ∧ PtsAt w g o ps := HS.out.resolve_left (fun e => by have := HN.out; rw [e] at this; simp at this; omega)
      have hk1 : (k : Int) < (n : Int) := by omega
      have HK1 := Lib.hid hk1
      have HPK := Lib.hid (fun W (hb : Below wr.heap.size wr W) => pt_cell hps (Below.andThen HB.out.2.1 hb (Nat.le_refl _)) HN.out hlt)
      have HBK := Lib.hid (pt_bd HPB.out HN.out hlt)
      have HRB := Lib.hid HB.out.2.2
      clear hps hk1
      have hst := HST.out
      have hsl := HSL.out
      rw [← congrFun HGL.out (ptAt ps k)] at hst hsl
      have HST := Lib.hid hst
      have HSL := Lib.hid hsl
      clear hst hsl
      generalize ptAt ps k = pk at *
      obtain ⟨ak, bk⟩ := pk
      dsimp only at HPK HBK HST HSL
      have HFR := Lib.hid (fun W : World => rWhere_any C ak bk W hcb HBK.out.1 HBK.out.2)
      obtain ⟨E, hE⟩ : ∃ E, decide (whF C (ak, bk) = 0) = E := ⟨_, rfl⟩
      have hE2 : (whF C (ak, bk) == 0) = E := by rw [← hE]; rfl
      have HEE := Lib.hid (And.intro hE hE2)
      simp only [hE] at HST HSL
      clear hE hE2
      generalize whF C (ak, bk) = FV at *
      generalize hLL : (whK ps gl k).length = LL at *
      have HLL := Lib.hid hLL
      clear hLL
      go_wp2_with fail
      refine wp_region_box (by kernel_rfl) (by kernel_rfl) [13, 14, 15, 16, 17, 18, 19] [(fun v => v = .agg #[.int .i64 C.X, .int .i64 C.Y, .int .i64 C.D, .int .i64 C.R]), (fun v => v = .slice (some ⟨g, o, none⟩) n c), (fun v => v = .int .i64 (k : Int)), (fun v => v = .pointer (some ⟨g, o + k * 2, none⟩)), (fun v => v = .agg #[.int .i64 ak, .int .i64 bk]), (fun v => v = .int .i64 FV), (fun v => v = .bool E)] [none, none, none, none, none, none, none] [none, none, none, none, none, none, none] 7 rfl (by kernel_rfl) ?tr ⟨_, (putAll_self _ _).symm, rfl⟩ ?steps ?fin
      case tr =>
        rintro i v h
        rcases i with _ | _ | _ | _ | _ | _ | _ | i
        all_goals first | trivial | (exfalso; rcases h with h | h <;> simp at h)
      case steps =>
        simp only [boxSteps, Nat.reduceAdd, Nat.zero_add, List.getD_cons_succ, List.getD_cons_zero]
        refine ⟨?_, ?_, ?_, ?_, ?_, ?_, ?_, trivial⟩
        · rintro vs W K hc hvl hw hK
          obtain ⟨x0, x1, x2, x3, x4, x5, x6, rfl⟩ := len7 hvl
          have HK := Lib.hid hK
          have HC := Lib.hid hc
          have HW := Lib.hid hw
          clear hK hc hw hvl
          simp only [putAll, Act.put, List.setIfInBounds_toArray, List.set_cons_succ, List.set_cons_zero]
          have rr := HRB.out.below HC.out HRB.out.lt
          have d0 := rr.cell 0
          have d1 := rr.cell 1
          have d2 := rr.cell 2
          have d3 := rr.cell 3
          simp only [List.getElem?_cons_zero, List.getElem?_cons_succ] at d0 d1 d2 d3
          clear rr
          clear HW
          go_wp2_with fail
          have fin := HK.out (.agg #[.int .i64 C.X, .int .i64 C.Y, .int .i64 C.D, .int .i64 C.R]) W (Below.refl _ _) rfl
          simp only [putAll, Act.put, List.setIfInBounds_toArray, List.set_cons_succ, List.set_cons_zero] at fin
          exact fin
        · rintro vs W K hc hvl hw hK
          obtain ⟨x0, x1, x2, x3, x4, x5, x6, rfl⟩ := len7 hvl
          have HK := Lib.hid hK
          have HC := Lib.hid hc
          have HW := Lib.hid hw
          clear hK hc hw hvl
          simp only [putAll, Act.put, List.setIfInBounds_toArray, List.set_cons_succ, List.set_cons_zero]
          clear HW
          go_wp2_with fail
          have fin := HK.out (.slice (some ⟨g, o, none⟩) n c) W (Below.refl _ _) rfl
          simp only [putAll, Act.put, List.setIfInBounds_toArray, List.set_cons_succ, List.set_cons_zero] at fin
          exact fin
        · rintro vs W K hc hvl hw hK
          obtain ⟨x0, x1, x2, x3, x4, x5, x6, rfl⟩ := len7 hvl
          have HK := Lib.hid hK
          have HC := Lib.hid hc
          have HW := Lib.hid hw
          clear hK hc hw hvl
          simp only [putAll, Act.put, List.setIfInBounds_toArray, List.set_cons_succ, List.set_cons_zero]
          clear HW
          go_wp2_with fail
          have fin := HK.out (.int .i64 (k : Int)) W (Below.refl _ _) rfl
          simp only [putAll, Act.put, List.setIfInBounds_toArray, List.set_cons_succ, List.set_cons_zero] at fin
          exact fin
        · rintro vs W K hc hvl hw hK
          obtain ⟨x0, x1, x2, x3, x4, x5, x6, rfl⟩ := len7 hvl
          have HK := Lib.hid hK
          have HC := Lib.hid hc
          have HW := Lib.hid hw
          clear hK hc hw hvl
          obtain rfl : x1 = .slice (some ⟨g, o, none⟩) n c := box_get (HW.out ⟨1, .data⟩ (by simp) rfl) rfl
          obtain rfl : x2 = .int .i64 (k : Int) := box_get (HW.out ⟨2, .data⟩ (by simp) rfl) rfl
          simp only [putAll, Act.put, List.setIfInBounds_toArray, List.set_cons_succ, List.set_cons_zero]
          have hi1 := HK1.out
          clear HW
          go_wp2_with fail
          have fin := HK.out (.pointer (some ⟨g, o + k * 2, none⟩)) W (Below.refl _ _) rfl
          simp only [putAll, Act.put, List.setIfInBounds_toArray, List.set_cons_succ, List.set_cons_zero] at fin
          exact fin
        · rintro vs W K hc hvl hw hK
          obtain ⟨x0, x1, x2, x3, x4, x5, x6, rfl⟩ := len7 hvl
          have HK := Lib.hid hK
          have HC := Lib.hid hc
          have HW := Lib.hid hw
          clear hK hc hw hvl
          obtain rfl : x3 = .pointer (some ⟨g, o + k * 2, none⟩) := box_get (HW.out ⟨3, .data⟩ (by simp) rfl) rfl
          simp only [putAll, Act.put, List.setIfInBounds_toArray, List.set_cons_succ, List.set_cons_zero]
          have d0 := (HPK.out W HC.out).1
          have d1 := (HPK.out W HC.out).2
          clear HW
          go_wp2_with fail
          have fin := HK.out (.agg #[.int .i64 ak, .int .i64 bk]) W (Below.refl _ _) rfl
          simp only [putAll, Act.put, List.setIfInBounds_toArray, List.set_cons_succ, List.set_cons_zero] at fin
          exact fin
        · rintro vs W K hc hvl hw hK
          obtain ⟨x0, x1, x2, x3, x4, x5, x6, rfl⟩ := len7 hvl
          have HK := Lib.hid hK
          have HC := Lib.hid hc
          have HW := Lib.hid hw
          clear hK hc hw hvl
          obtain rfl : x0 = .agg #[.int .i64 C.X, .int .i64 C.Y, .int .i64 C.D, .int .i64 C.R] := box_get (HW.out ⟨0, .data⟩ (by simp) rfl) rfl
          obtain rfl : x4 = .agg #[.int .i64 ak, .int .i64 bk] := box_get (HW.out ⟨4, .data⟩ (by simp) rfl) rfl
          simp only [putAll, Act.put, List.setIfInBounds_toArray, List.set_cons_succ, List.set_cons_zero]
          clear HW
          go_wp2_with fail
          refine (HFR.out W).mono ?_
          rintro e W' ⟨rfl, hb'⟩
          have HB' := Lib.hid hb'
          clear hb'
          go_wp2_with fail
          have fin := HK.out (.int .i64 FV) W' HB'.out rfl
          simp only [putAll, Act.put, List.setIfInBounds_toArray, List.set_cons_succ, List.set_cons_zero] at fin
          exact fin
        · rintro vs W K hc hvl hw hK
          obtain ⟨x0, x1, x2, x3, x4, x5, x6, rfl⟩ := len7 hvl
          have HK := Lib.hid hK
          have HC := Lib.hid hc
          have HW := Lib.hid hw
          clear hK hc hw hvl
          obtain rfl : x5 = .int .i64 FV := box_get (HW.out ⟨5, .data⟩ (by simp) rfl) rfl
          simp only [putAll, Act.put, List.setIfInBounds_toArray, List.set_cons_succ, List.set_cons_zero]
          have e1 := HEE.out.1
          have e2 := HEE.out.2
          clear HW
          go_wp2_with fail
          have fin := HK.out (.bool E) W (Below.refl _ _) rfl
          simp only [putAll, Act.put, List.setIfInBounds_toArray, List.set_cons_succ, List.set_cons_zero] at fin
          exact fin
      case fin =>
        rintro vs W hJ
        obtain ⟨x0, x1, x2, x3, x4, x5, x6, rfl⟩ := len7 hJ.ln
        obtain rfl : x6 = .bool E := box_get (hJ.val 6 rfl) rfl
        have HC := Lib.hid hJ.bl
        clear hJ
        simp only [putAll, Act.put, List.setIfInBounds_toArray, List.set_cons_succ, List.set_cons_zero]
        cases E with
        | true =>
          obtain ⟨b3, r3⟩ := box_start W 3 [.int .i64 (k : Int)]
          have hbw := Below.andThen HB.out.2.1 (Below.andThen HC.out b3 (Nat.le_refl _)) (Nat.le_refl _)
          have HLE := Lib.hid (show w.heap.size + 1 ≤ (W.alloc (.cells [.int .i64 (k : Int)].toArray 3)).heap.size from Nat.le_trans (Nat.succ_le_of_lt HRB.out.lt) (Nat.le_trans HC.out.size b3.size))
          obtain ⟨v', W', e1, e2, e3⟩ := app3_one _ (w.heap.size + 1) _ _ _ (k : Int) W.heap.size (own_grow (own_grow HB.out.1 HC.out) b3) HLE.out (by have := HLN.out; have := HLL.out; omega) r3
          obtain ⟨a4, c4, rfl⟩ := own_sl e2
          have A4 := Lib.hid e1
          have O4 := Lib.hid e2
          have B4 := Lib.hid (hbw.trans (e3.mono (by omega)))
          have R4 := Lib.hid ((HRB.out.below (Below.andThen HC.out b3 (Nat.le_refl _)) HRB.out.lt))
          have R5 := Lib.hid (show Row W' w.heap.size 46 [.int .i64 C.X, .int .i64 C.Y, .int .i64 C.D, .int .i64 C.R] from R4.out.below e3 (by omega))
          clear b3 r3 hbw e1 e2 e3
          go_wp2_with (at_builtin; refine wpList_append_run rfl _ _ 35 rfl _ _ _ _ rfl rfl A4.out ?_)
          refine ⟨⟨k + 1, by omega, rfl, ?_⟩, by simp [intOf]; omega⟩
          rw [HST.out, HSL.out, if_pos (by rfl), if_pos (by rfl)]
          exact Lib.hid ⟨O4.out, B4.out, R5.out⟩
        | false =>
          go_wp2_with fail
          refine ⟨⟨k + 1, by omega, rfl, ?_⟩, by simp [intOf]; omega⟩
          rw [HST.out, HSL.out, if_neg (by simp), if_neg (by simp), List.append_nil, Nat.add_zero]
          exact Lib.hid ⟨own_grow HB.out.1 HC.out, Below.andThen HB.out.2.1 HC.out (Nat.le_refl _), HRB.out.below HC.out HRB.out.lt⟩
    · have hd : decide ((k : Int) < (n : Int)) = false := decide_eq_false (by omega)
      have hdn : decide (k < n) = false := decide_eq_false hlt
      obtain rfl : k = n := by omega
      go_wp2_with fail
      refine bodyPost_ret (v := .slice ao (whK ps gl k).length co) (by simp [results, Try.results45, go_sem]) rfl ⟨_, rfl, owns_mono HB.out.1 (by omega), HB.out.2.1⟩
set_option maxRecDepth 100000 in
set_option maxHeartbeats 1000000 in
theorem rNearest_any (ps : List Pt) (v : Value) (x y : Int) (w : World) (hv : SlP w v ps) (h0 : 0 < ps.length) (hl : ps.length ≤ 12) (hpb : ∀ p ∈ ps, Bd 20 p.1 ∧ Bd 20 p.2) (hx : Bd 20 x) (hy : Bd 20 y) :
    Calls Try.prog 49 #[v, .agg #[.int .i64 x, .int .i64 y]] w fun e w' => ∃ s, e = .returned s ∧ w'.ownsRow w.heap.size 3 1 s (NearestL ps (x, y)).length ((NearestL ps (x, y)).map (fun n : Nat => encI (n : Int))) ∧ Below w.heap.size w w' := by
  have HAT := Lib.hid (fun (d : Int) (W : World) (h : SlP W v ps) => rAt_any ps v x y d W h hl hpb hx hy)
  have HEQ := Lib.hid (show NearestL ps (x, y) = whL ps (fun q => decide (fd q (x, y) = lowK (fun q => fd q (x, y)) ps ps.length)) from rfl)
  rw [HEQ.out]
  have HSV := Lib.hid hv
  obtain ⟨a, c, rfl, hc, hs⟩ := hv
  have HS := Lib.hid hs
  have HPB := Lib.hid hpb
  obtain ⟨n, hn⟩ : ∃ n, ps.length = n := ⟨_, rfl⟩
  have HN := Lib.hid hn
  rw [hn] at hl hc h0 HAT HSV ⊢
  obtain ⟨bb, rr⟩ := box_start w 28 [.int .i64 x, .int .i64 y]
  have BB := Lib.hid bb
  have RB := Lib.hid rr
  have HXY := Lib.hid (And.intro hx hy)
  obtain ⟨g, o, rfl, hps⟩ : ∃ g o, a = some ⟨g, o, none⟩ ∧ PtsAt w g o ps := HS.out.resolve_left (fun e => by have := HN.out; rw [e] at this; simp at this; omega)
  have HPS := Lib.hid hps
  obtain ⟨V, hV⟩ : ∃ V, V = w.alloc (.cells [.int .i64 x, .int .i64 y].toArray 28) := ⟨_, rfl⟩
  rw [← hV] at BB RB
  clear hs hpb hn bb rr hps hx hy
  go_enter Try.func49, Try.ntmps49
  go_wp2_with fail
  rw [← hV]
  clear hV
  have hk0 : (0 : Int) < (n : Int) := by omega
  have HK0 := Lib.hid hk0
  have HP0 := Lib.hid (fun W (hb : Below V.heap.size V W) => pt_cell HPS.out (Below.andThen BB.out hb (Nat.le_refl _)) HN.out h0)
  have HB0 := Lib.hid (pt_bd HPB.out HN.out h0)
  have HZ := Lib.hid (lowK_zero (fun q => fd q (x, y)) ps)
  clear hk0
  generalize ptAt ps 0 = pz at *
  obtain ⟨az, bz⟩ := pz
  dsimp only at HP0 HB0 HZ
  have HF0 := Lib.hid (fun W : World => Far_any az bz x y W HB0.out.1 HB0.out.2 HXY.out.1 HXY.out.2)
  generalize fd (az, bz) (x, y) = FZ at *
  refine wp_region_box (by kernel_rfl) (by kernel_rfl) [7, 8, 9, 10, 11, 5] [(fun v => v = .slice (some ⟨g, o, none⟩) n c), (fun v => v = .pointer (some ⟨g, o, none⟩)), (fun v => v = .agg #[.int .i64 az, .int .i64 bz]), (fun v => v = .agg #[.int .i64 x, .int .i64 y]), (fun v => v = .int .i64 FZ), (fun v => v = .int .i64 FZ)] [none, none, none, none, none, none] [none, none, none, none, none, none] 6 rfl (by kernel_rfl) ?tr ⟨_, (putAll_self _ _).symm, rfl⟩ ?steps ?fin
  case tr =>
    rintro i v h
    rcases i with _ | _ | _ | _ | _ | _ | i
    all_goals first | trivial | (exfalso; rcases h with h | h <;> simp at h)
  case steps =>
    simp only [boxSteps, Nat.reduceAdd, Nat.zero_add, List.getD_cons_succ, List.getD_cons_zero]
    refine ⟨?_, ?_, ?_, ?_, ?_, ?_, trivial⟩
    · rintro vs W K hc hvl hw hK
      obtain ⟨x0, x1, x2, x3, x4, x5, rfl⟩ := len6 hvl
      have HK := Lib.hid hK
      have HC := Lib.hid hc
      have HW := Lib.hid hw
      clear hK hc hw hvl
      simp only [putAll, Act.put, List.setIfInBounds_toArray, List.set_cons_succ, List.set_cons_zero]
      clear HW
      go_wp2_with fail
      have fin := HK.out (.slice (some ⟨g, o, none⟩) n c) W (Below.refl _ _) rfl
      simp only [putAll, Act.put, List.setIfInBounds_toArray, List.set_cons_succ, List.set_cons_zero] at fin
      exact fin
    · rintro vs W K hc hvl hw hK
      obtain ⟨x0, x1, x2, x3, x4, x5, rfl⟩ := len6 hvl
      have HK := Lib.hid hK
      have HC := Lib.hid hc
      have HW := Lib.hid hw
      clear hK hc hw hvl
      obtain rfl : x0 = .slice (some ⟨g, o, none⟩) n c := box_get (HW.out ⟨0, .data⟩ (by simp) rfl) rfl
      simp only [putAll, Act.put, List.setIfInBounds_toArray, List.set_cons_succ, List.set_cons_zero]
      have hi1 := HK0.out
      clear HW
      go_wp2_with fail
      have fin := HK.out (.pointer (some ⟨g, o, none⟩)) W (Below.refl _ _) rfl
      simp only [putAll, Act.put, List.setIfInBounds_toArray, List.set_cons_succ, List.set_cons_zero] at fin
      exact fin
    · rintro vs W K hc hvl hw hK
      obtain ⟨x0, x1, x2, x3, x4, x5, rfl⟩ := len6 hvl
      have HK := Lib.hid hK
      have HC := Lib.hid hc
      have HW := Lib.hid hw
      clear hK hc hw hvl
      obtain rfl : x1 = .pointer (some ⟨g, o, none⟩) := box_get (HW.out ⟨1, .data⟩ (by simp) rfl) rfl
      simp only [putAll, Act.put, List.setIfInBounds_toArray, List.set_cons_succ, List.set_cons_zero]
      have d0 := (HP0.out W HC.out).1
      have d1 := (HP0.out W HC.out).2
      simp only [Nat.zero_mul, Nat.add_zero] at d0 d1
      clear HW
      go_wp2_with fail
      have fin := HK.out (.agg #[.int .i64 az, .int .i64 bz]) W (Below.refl _ _) rfl
      simp only [putAll, Act.put, List.setIfInBounds_toArray, List.set_cons_succ, List.set_cons_zero] at fin
      exact fin
    · rintro vs W K hc hvl hw hK
      obtain ⟨x0, x1, x2, x3, x4, x5, rfl⟩ := len6 hvl
      have HK := Lib.hid hK
      have HC := Lib.hid hc
      have HW := Lib.hid hw
      clear hK hc hw hvl
      simp only [putAll, Act.put, List.setIfInBounds_toArray, List.set_cons_succ, List.set_cons_zero]
      have rr := RB.out.below HC.out RB.out.lt
      have d0 := rr.cell 0
      have d1 := rr.cell 1
      simp only [List.getElem?_cons_zero, List.getElem?_cons_succ] at d0 d1
      clear rr
      clear HW
      go_wp2_with fail
      have fin := HK.out (.agg #[.int .i64 x, .int .i64 y]) W (Below.refl _ _) rfl
      simp only [putAll, Act.put, List.setIfInBounds_toArray, List.set_cons_succ, List.set_cons_zero] at fin
      exact fin
    · rintro vs W K hc hvl hw hK
      obtain ⟨x0, x1, x2, x3, x4, x5, rfl⟩ := len6 hvl
      have HK := Lib.hid hK
      have HC := Lib.hid hc
      have HW := Lib.hid hw
      clear hK hc hw hvl
      obtain rfl : x2 = .agg #[.int .i64 az, .int .i64 bz] := box_get (HW.out ⟨2, .data⟩ (by simp) rfl) rfl
      obtain rfl : x3 = .agg #[.int .i64 x, .int .i64 y] := box_get (HW.out ⟨3, .data⟩ (by simp) rfl) rfl
      simp only [putAll, Act.put, List.setIfInBounds_toArray, List.set_cons_succ, List.set_cons_zero]
      clear HW
      go_wp2_with fail
      refine (HF0.out W).mono ?_
      rintro e W' ⟨rfl, hb'⟩
      have HB' := Lib.hid hb'
      clear hb'
      go_wp2_with fail
      have fin := HK.out (.int .i64 FZ) W' HB'.out rfl
      simp only [putAll, Act.put, List.setIfInBounds_toArray, List.set_cons_succ, List.set_cons_zero] at fin
      exact fin
    · rintro vs W K hc hvl hw hK
      obtain ⟨x0, x1, x2, x3, x4, x5, rfl⟩ := len6 hvl
      have HK := Lib.hid hK
      have HC := Lib.hid hc
      have HW := Lib.hid hw
      clear hK hc hw hvl
      obtain rfl : x4 = .int .i64 FZ := box_get (HW.out ⟨4, .data⟩ (by simp) rfl) rfl
      simp only [putAll, Act.put, List.setIfInBounds_toArray, List.set_cons_succ, List.set_cons_zero]
      clear HW
      go_wp2_with fail
      have fin := HK.out (.int .i64 FZ) W (Below.refl _ _) rfl
      simp only [putAll, Act.put, List.setIfInBounds_toArray, List.set_cons_succ, List.set_cons_zero] at fin
      exact fin
  case fin =>
    rintro vs W hJ
    obtain ⟨x0, x1, x2, x3, x4, x5, rfl⟩ := len6 hJ.ln
    obtain rfl : x5 = .int .i64 FZ := box_get (hJ.val 5 rfl) rfl
    have HC := Lib.hid hJ.bl
    clear hJ
    simp only [putAll, Act.put, List.setIfInBounds_toArray, List.set_cons_succ, List.set_cons_zero]
    go_wp2_with fail
    go_loopw [6, 5] (fun iv bv wr => ∃ k : Nat, k ≤ n ∧ iv = .int .i64 (k : Int) ∧ bv = .int .i64 (lowK (fun q => fd q (x, y)) ps k) ∧ Hid (Below w.heap.size w wr ∧ Row wr w.heap.size 28 [.int .i64 x, .int .i64 y])) (fun iv _ _ => (n - intOf iv).toNat)
    case atStart => exact ⟨0, by omega, rfl, by rw [HZ.out], Lib.hid ⟨Below.andThen BB.out HC.out (Nat.le_refl _), RB.out.below HC.out RB.out.lt⟩⟩
    case round =>
      obtain ⟨k, hk, rfl, rfl, HB⟩ := hrel
      have kw : IntKind.i64.wrap ((k : Int) + 1) = ((k + 1 : Nat) : Int) := by rw [i64_of _ (by omega) (by omega)]; omega
      by_cases hlt : k < n
      · have hd : decide ((k : Int) < (n : Int)) = true := decide_eq_true (by omega)
        have hdn : decide (k < n) = true := decide_eq_true hlt
        have hk1 : (k : Int) < (n : Int) := by omega
        have HK1 := Lib.hid hk1
        have HPK := Lib.hid (fun W (hb : Below wr.heap.size wr W) => pt_cell HPS.out (Below.andThen HB.out.1 hb (Nat.le_refl _)) HN.out hlt)
        have HBK := Lib.hid (pt_bd HPB.out HN.out hlt)
        have HRB := Lib.hid HB.out.2
        have HST := Lib.hid (lowK_step (m := fun q => fd q (x, y)) (ps := ps) (k := k) (by rw [HN.out]; exact hlt))
        have hpt := ptAt_lt (ps := ps) (i := k) (by rw [HN.out]; exact hlt)
        rw [← hpt] at HST
        clear hk1 hpt
        generalize ptAt ps k = pk at *
        obtain ⟨ak, bk⟩ := pk
        dsimp only at HPK HBK HST
        have HFR := Lib.hid (fun W : World => Far_any ak bk x y W HBK.out.1 HBK.out.2 HXY.out.1 HXY.out.2)
        generalize fd (ak, bk) (x, y) = MK at *
        generalize lowK (fun q => fd q (x, y)) ps k = LO at *
        go_wp2_with fail
        refine wp_region_boxz (by kernel_rfl) (by kernel_rfl) [18, 19, 20, 21, 22, 23, 24, 25, 5] [(fun v => v = .int .i64 LO), (fun v => v = .slice (some ⟨g, o, none⟩) n c), (fun v => v = .int .i64 (k : Int)), (fun v => v = .pointer (some ⟨g, o + k * 2, none⟩)), (fun v => v = .agg #[.int .i64 ak, .int .i64 bk]), (fun v => v = .agg #[.int .i64 x, .int .i64 y]), (fun v => v = .int .i64 MK), (fun v => v = .int .i64 (min LO MK)), (fun v => v = .int .i64 (min LO MK))] [none, none, none, none, none, none, none, none, none] [none, none, none, none, none, none, none, none, none] 9 rfl (by kernel_rfl) 8 (.int .i64 LO) (by kernel_rfl) ?tr ⟨_, (putAll_self _ _).symm, rfl, rfl⟩ ?steps ?fin
        case tr =>
          rintro i v h
          rcases i with _ | _ | _ | _ | _ | _ | _ | _ | _ | i
          all_goals first | trivial | (exfalso; rcases h with h | h <;> simp at h)
        case steps =>
          simp only [boxStepsZ, Nat.reduceAdd, Nat.zero_add, List.getD_cons_succ, List.getD_cons_zero]
          refine ⟨?_, ?_, ?_, ?_, ?_, ?_, ?_, ?_, ?_, trivial⟩
          · rintro vs W K hc hvl hkz hw hK
            obtain ⟨x0, x1, x2, x3, x4, x5, x6, x7, x8, rfl⟩ := len9 hvl
            have HK := Lib.hid hK
            have HC := Lib.hid hc
            have HW := Lib.hid hw
            clear hK hc hw hvl
            obtain rfl : x8 = .int .i64 LO := Option.some.inj (hkz (by decide))
            clear hkz
            simp only [putAll, Act.put, List.setIfInBounds_toArray, List.set_cons_succ, List.set_cons_zero]
            clear HW
            go_wp2_with fail
            have fin := HK.out (.int .i64 LO) W (Below.refl _ _) rfl
            simp only [putAll, Act.put, List.setIfInBounds_toArray, List.set_cons_succ, List.set_cons_zero] at fin
            exact fin
          · rintro vs W K hc hvl hkz hw hK
            obtain ⟨x0, x1, x2, x3, x4, x5, x6, x7, x8, rfl⟩ := len9 hvl
            have HK := Lib.hid hK
            have HC := Lib.hid hc
            have HW := Lib.hid hw
            clear hK hc hw hvl
            obtain rfl : x8 = .int .i64 LO := Option.some.inj (hkz (by decide))
            clear hkz
            simp only [putAll, Act.put, List.setIfInBounds_toArray, List.set_cons_succ, List.set_cons_zero]
            clear HW
            go_wp2_with fail
            have fin := HK.out (.slice (some ⟨g, o, none⟩) n c) W (Below.refl _ _) rfl
            simp only [putAll, Act.put, List.setIfInBounds_toArray, List.set_cons_succ, List.set_cons_zero] at fin
            exact fin
          · rintro vs W K hc hvl hkz hw hK
            obtain ⟨x0, x1, x2, x3, x4, x5, x6, x7, x8, rfl⟩ := len9 hvl
            have HK := Lib.hid hK
            have HC := Lib.hid hc
            have HW := Lib.hid hw
            clear hK hc hw hvl
            obtain rfl : x8 = .int .i64 LO := Option.some.inj (hkz (by decide))
            clear hkz
            simp only [putAll, Act.put, List.setIfInBounds_toArray, List.set_cons_succ, List.set_cons_zero]
            clear HW
            go_wp2_with fail
            have fin := HK.out (.int .i64 (k : Int)) W (Below.refl _ _) rfl
            simp only [putAll, Act.put, List.setIfInBounds_toArray, List.set_cons_succ, List.set_cons_zero] at fin
            exact fin
          · rintro vs W K hc hvl hkz hw hK
            obtain ⟨x0, x1, x2, x3, x4, x5, x6, x7, x8, rfl⟩ := len9 hvl
            have HK := Lib.hid hK
            have HC := Lib.hid hc
            have HW := Lib.hid hw
            clear hK hc hw hvl
            obtain rfl : x8 = .int .i64 LO := Option.some.inj (hkz (by decide))
            clear hkz
            obtain rfl : x1 = .slice (some ⟨g, o, none⟩) n c := box_get (HW.out ⟨1, .data⟩ (by simp) rfl) rfl
            obtain rfl : x2 = .int .i64 (k : Int) := box_get (HW.out ⟨2, .data⟩ (by simp) rfl) rfl
            simp only [putAll, Act.put, List.setIfInBounds_toArray, List.set_cons_succ, List.set_cons_zero]
            have hi1 := HK1.out
            clear HW
            go_wp2_with fail
            have fin := HK.out (.pointer (some ⟨g, o + k * 2, none⟩)) W (Below.refl _ _) rfl
            simp only [putAll, Act.put, List.setIfInBounds_toArray, List.set_cons_succ, List.set_cons_zero] at fin
            exact fin
          · rintro vs W K hc hvl hkz hw hK
            obtain ⟨x0, x1, x2, x3, x4, x5, x6, x7, x8, rfl⟩ := len9 hvl
            have HK := Lib.hid hK
            have HC := Lib.hid hc
            have HW := Lib.hid hw
            clear hK hc hw hvl
            obtain rfl : x8 = .int .i64 LO := Option.some.inj (hkz (by decide))
            clear hkz
            obtain rfl : x3 = .pointer (some ⟨g, o + k * 2, none⟩) := box_get (HW.out ⟨3, .data⟩ (by simp) rfl) rfl
            simp only [putAll, Act.put, List.setIfInBounds_toArray, List.set_cons_succ, List.set_cons_zero]
            have d0 := (HPK.out W HC.out).1
            have d1 := (HPK.out W HC.out).2
            clear HW
            go_wp2_with fail
            have fin := HK.out (.agg #[.int .i64 ak, .int .i64 bk]) W (Below.refl _ _) rfl
            simp only [putAll, Act.put, List.setIfInBounds_toArray, List.set_cons_succ, List.set_cons_zero] at fin
            exact fin
          · rintro vs W K hc hvl hkz hw hK
            obtain ⟨x0, x1, x2, x3, x4, x5, x6, x7, x8, rfl⟩ := len9 hvl
            have HK := Lib.hid hK
            have HC := Lib.hid hc
            have HW := Lib.hid hw
            clear hK hc hw hvl
            obtain rfl : x8 = .int .i64 LO := Option.some.inj (hkz (by decide))
            clear hkz
            simp only [putAll, Act.put, List.setIfInBounds_toArray, List.set_cons_succ, List.set_cons_zero]
            have rr := HRB.out.below HC.out HRB.out.lt
            have d0 := rr.cell 0
            have d1 := rr.cell 1
            simp only [List.getElem?_cons_zero, List.getElem?_cons_succ] at d0 d1
            clear rr
            clear HW
            go_wp2_with fail
            have fin := HK.out (.agg #[.int .i64 x, .int .i64 y]) W (Below.refl _ _) rfl
            simp only [putAll, Act.put, List.setIfInBounds_toArray, List.set_cons_succ, List.set_cons_zero] at fin
            exact fin
          · rintro vs W K hc hvl hkz hw hK
            obtain ⟨x0, x1, x2, x3, x4, x5, x6, x7, x8, rfl⟩ := len9 hvl
            have HK := Lib.hid hK
            have HC := Lib.hid hc
            have HW := Lib.hid hw
            clear hK hc hw hvl
            obtain rfl : x8 = .int .i64 LO := Option.some.inj (hkz (by decide))
            clear hkz
            obtain rfl : x4 = .agg #[.int .i64 ak, .int .i64 bk] := box_get (HW.out ⟨4, .data⟩ (by simp) rfl) rfl
            obtain rfl : x5 = .agg #[.int .i64 x, .int .i64 y] := box_get (HW.out ⟨5, .data⟩ (by simp) rfl) rfl
            simp only [putAll, Act.put, List.setIfInBounds_toArray, List.set_cons_succ, List.set_cons_zero]
            clear HW
            go_wp2_with fail
            refine (HFR.out W).mono ?_
            rintro e W' ⟨rfl, hb'⟩
            have HB' := Lib.hid hb'
            clear hb'
            go_wp2_with fail
            have fin := HK.out (.int .i64 MK) W' HB'.out rfl
            simp only [putAll, Act.put, List.setIfInBounds_toArray, List.set_cons_succ, List.set_cons_zero] at fin
            exact fin
          · rintro vs W K hc hvl hkz hw hK
            obtain ⟨x0, x1, x2, x3, x4, x5, x6, x7, x8, rfl⟩ := len9 hvl
            have HK := Lib.hid hK
            have HC := Lib.hid hc
            have HW := Lib.hid hw
            clear hK hc hw hvl
            obtain rfl : x8 = .int .i64 LO := Option.some.inj (hkz (by decide))
            clear hkz
            obtain rfl : x0 = .int .i64 LO := box_get (HW.out ⟨0, .data⟩ (by simp) rfl) rfl
            obtain rfl : x6 = .int .i64 MK := box_get (HW.out ⟨6, .data⟩ (by simp) rfl) rfl
            simp only [putAll, Act.put, List.setIfInBounds_toArray, List.set_cons_succ, List.set_cons_zero]
            clear HW
            go_wp2_with fail
            have fin := HK.out (.int .i64 (min LO MK)) W (Below.refl _ _) rfl
            simp only [putAll, Act.put, List.setIfInBounds_toArray, List.set_cons_succ, List.set_cons_zero] at fin
            exact fin
          · rintro vs W K hc hvl hkz hw hK
            obtain ⟨x0, x1, x2, x3, x4, x5, x6, x7, x8, rfl⟩ := len9 hvl
            have HK := Lib.hid hK
            have HC := Lib.hid hc
            have HW := Lib.hid hw
            clear hK hc hw hvl
            clear hkz
            obtain rfl : x7 = .int .i64 (min LO MK) := box_get (HW.out ⟨7, .data⟩ (by simp) rfl) rfl
            simp only [putAll, Act.put, List.setIfInBounds_toArray, List.set_cons_succ, List.set_cons_zero]
            clear HW
            go_wp2_with fail
            have fin := HK.out (.int .i64 (min LO MK)) W (Below.refl _ _) rfl
            simp only [putAll, Act.put, List.setIfInBounds_toArray, List.set_cons_succ, List.set_cons_zero] at fin
            exact fin
        case fin =>
          rintro vs W hJ
          obtain ⟨x0, x1, x2, x3, x4, x5, x6, x7, x8, rfl⟩ := len9 hJ.ln
          obtain rfl : x8 = .int .i64 (min LO MK) := box_get (hJ.val 8 rfl) rfl
          have HC := Lib.hid hJ.bl
          clear hJ
          simp only [putAll, Act.put, List.setIfInBounds_toArray, List.set_cons_succ, List.set_cons_zero]
          go_wp2_with fail
          exact ⟨⟨k + 1, by omega, rfl, by rw [HST.out], Lib.hid ⟨Below.andThen HB.out.1 HC.out (Nat.le_refl _), HRB.out.below HC.out HRB.out.lt⟩⟩, by simp [intOf]; omega⟩
      · have hd : decide ((k : Int) < (n : Int)) = false := decide_eq_false (by omega)
        have hdn : decide (k < n) = false := decide_eq_false hlt
        obtain rfl : k = n := by omega
        have HSV2 := Lib.hid (HSV.out.grow (Below.mono HB.out.1 (Nat.le_refl _)))
        have HA := Lib.hid (HAT.out (lowK (fun q => fd q (x, y)) ps k) wr HSV2.out)
        have HBW := Lib.hid HB.out.1
        have rq := HB.out.2
        have q0 := rq.cell 0
        have q1 := rq.cell 1
        simp only [List.getElem?_cons_zero, List.getElem?_cons_succ] at q0 q1
        clear rq HAT HB
        obtain ⟨LO, hLO⟩ : ∃ t, lowK (fun q => fd q (x, y)) ps k = t := ⟨_, rfl⟩
        rw [hLO] at HA ⊢
        have HLO := Lib.hid hLO
        clear hLO
        go_wp2_with fail
        refine HA.out.mono ?_
        rintro e w9 ⟨s, rfl, h8, h9⟩
        obtain ⟨a9, c9, rfl⟩ := own_sl h8
        have O9 := Lib.hid (owns_mono h8 HBW.out.size)
        have B9 := Lib.hid (Below.andThen HBW.out h9 (Nat.le_refl _))
        clear h8 h9 q0 q1
        go_wp2_with fail
        refine bodyPost_ret (v := .slice a9 (whL ps fun p => decide (fd p (x, y) = LO)).length c9) (by simp [results, Try.results49, go_sem]) rfl ⟨_, rfl, ?_, B9.out⟩
        rw [HLO.out]
        exact O9.out
set_option maxRecDepth 100000 in
set_option maxHeartbeats 1000000 in
theorem rFarthest_any (ps : List Pt) (v : Value) (x y : Int) (w : World) (hv : SlP w v ps) (h0 : 0 < ps.length) (hl : ps.length ≤ 12) (hpb : ∀ p ∈ ps, Bd 20 p.1 ∧ Bd 20 p.2) (hx : Bd 20 x) (hy : Bd 20 y) :
    Calls Try.prog 50 #[v, .agg #[.int .i64 x, .int .i64 y]] w fun e w' => ∃ s, e = .returned s ∧ w'.ownsRow w.heap.size 3 1 s (FarthestL ps (x, y)).length ((FarthestL ps (x, y)).map (fun n : Nat => encI (n : Int))) ∧ Below w.heap.size w w' := by
  have HAT := Lib.hid (fun (d : Int) (W : World) (h : SlP W v ps) => rAt_any ps v x y d W h hl hpb hx hy)
  have HEQ := Lib.hid (show FarthestL ps (x, y) = whL ps (fun q => decide (fd q (x, y) = hiK (fun q => fd q (x, y)) ps ps.length)) from far_eq h0)
  rw [HEQ.out]
  have HSV := Lib.hid hv
  obtain ⟨a, c, rfl, hc, hs⟩ := hv
  have HS := Lib.hid hs
  have HPB := Lib.hid hpb
  obtain ⟨n, hn⟩ : ∃ n, ps.length = n := ⟨_, rfl⟩
  have HN := Lib.hid hn
  rw [hn] at hl hc h0 HAT HSV ⊢
  obtain ⟨bb, rr⟩ := box_start w 28 [.int .i64 x, .int .i64 y]
  have BB := Lib.hid bb
  have RB := Lib.hid rr
  have HXY := Lib.hid (And.intro hx hy)
  obtain ⟨g, o, rfl, hps⟩ : ∃ g o, a = some ⟨g, o, none⟩ ∧ PtsAt w g o ps := HS.out.resolve_left (fun e => by have := HN.out; rw [e] at this; simp at this; omega)
  have HPS := Lib.hid hps
  obtain ⟨V, hV⟩ : ∃ V, V = w.alloc (.cells [.int .i64 x, .int .i64 y].toArray 28) := ⟨_, rfl⟩
  rw [← hV] at BB RB
  clear hs hpb hn bb rr hps hx hy
  go_enter Try.func50, Try.ntmps50
  go_wp2_with fail
  rw [← hV]
  clear hV
  go_loopw [6, 5] (fun iv bv wr => ∃ k : Nat, k ≤ n ∧ iv = .int .i64 (k : Int) ∧ bv = .int .i64 (hiK (fun q => fd q (x, y)) ps k) ∧ Hid (Below w.heap.size w wr ∧ Row wr w.heap.size 28 [.int .i64 x, .int .i64 y])) (fun iv _ _ => (n - intOf iv).toNat)
  case atStart => exact ⟨0, by omega, rfl, rfl, Lib.hid ⟨BB.out, RB.out⟩⟩
  case round =>
    obtain ⟨k, hk, rfl, rfl, HB⟩ := hrel
    have kw : IntKind.i64.wrap ((k : Int) + 1) = ((k + 1 : Nat) : Int) := by rw [i64_of _ (by omega) (by omega)]; omega
    by_cases hlt : k < n
    · have hd : decide ((k : Int) < (n : Int)) = true := decide_eq_true (by omega)
      have hdn : decide (k < n) = true := decide_eq_true hlt
      have hk1 : (k : Int) < (n : Int) := by omega
      have HK1 := Lib.hid hk1
      have HPK := Lib.hid (fun W (hb : Below wr.heap.size wr W) => pt_cell HPS.out (Below.andThen HB.out.1 hb (Nat.le_refl _)) HN.out hlt)
      have HBK := Lib.hid (pt_bd HPB.out HN.out hlt)
      have HRB := Lib.hid HB.out.2
      have HST := Lib.hid (hiK_step (m := fun q => fd q (x, y)) (ps := ps) (k := k) (by rw [HN.out]; exact hlt))
      have hpt := ptAt_lt (ps := ps) (i := k) (by rw [HN.out]; exact hlt)
      clear hk1 hpt
      generalize ptAt ps k = pk at *
      obtain ⟨ak, bk⟩ := pk
      dsimp only at HPK HBK HST
      have HFR := Lib.hid (fun W : World => Far_any ak bk x y W HBK.out.1 HBK.out.2 HXY.out.1 HXY.out.2)
      generalize fd (ak, bk) (x, y) = MK at *
      generalize hiK (fun q => fd q (x, y)) ps k = LO at *
      go_wp2_with fail
      refine wp_region_boxz (by kernel_rfl) (by kernel_rfl) [13, 14, 15, 16, 17, 18, 19, 20, 5] [(fun v => v = .int .i64 LO), (fun v => v = .slice (some ⟨g, o, none⟩) n c), (fun v => v = .int .i64 (k : Int)), (fun v => v = .pointer (some ⟨g, o + k * 2, none⟩)), (fun v => v = .agg #[.int .i64 ak, .int .i64 bk]), (fun v => v = .agg #[.int .i64 x, .int .i64 y]), (fun v => v = .int .i64 MK), (fun v => v = .int .i64 (max LO MK)), (fun v => v = .int .i64 (max LO MK))] [none, none, none, none, none, none, none, none, none] [none, none, none, none, none, none, none, none, none] 9 rfl (by kernel_rfl) 8 (.int .i64 LO) (by kernel_rfl) ?tr ⟨_, (putAll_self _ _).symm, rfl, rfl⟩ ?steps ?fin
      case tr =>
        rintro i v h
        rcases i with _ | _ | _ | _ | _ | _ | _ | _ | _ | i
        all_goals first | trivial | (exfalso; rcases h with h | h <;> simp at h)
      case steps =>
        simp only [boxStepsZ, Nat.reduceAdd, Nat.zero_add, List.getD_cons_succ, List.getD_cons_zero]
        refine ⟨?_, ?_, ?_, ?_, ?_, ?_, ?_, ?_, ?_, trivial⟩
        · rintro vs W K hc hvl hkz hw hK
          obtain ⟨x0, x1, x2, x3, x4, x5, x6, x7, x8, rfl⟩ := len9 hvl
          have HK := Lib.hid hK
          have HC := Lib.hid hc
          have HW := Lib.hid hw
          clear hK hc hw hvl
          obtain rfl : x8 = .int .i64 LO := Option.some.inj (hkz (by decide))
          clear hkz
          simp only [putAll, Act.put, List.setIfInBounds_toArray, List.set_cons_succ, List.set_cons_zero]
          clear HW
          go_wp2_with fail
          have fin := HK.out (.int .i64 LO) W (Below.refl _ _) rfl
          simp only [putAll, Act.put, List.setIfInBounds_toArray, List.set_cons_succ, List.set_cons_zero] at fin
          exact fin
        · rintro vs W K hc hvl hkz hw hK
          obtain ⟨x0, x1, x2, x3, x4, x5, x6, x7, x8, rfl⟩ := len9 hvl
          have HK := Lib.hid hK
          have HC := Lib.hid hc
          have HW := Lib.hid hw
          clear hK hc hw hvl
          obtain rfl : x8 = .int .i64 LO := Option.some.inj (hkz (by decide))
          clear hkz
          simp only [putAll, Act.put, List.setIfInBounds_toArray, List.set_cons_succ, List.set_cons_zero]
          clear HW
          go_wp2_with fail
          have fin := HK.out (.slice (some ⟨g, o, none⟩) n c) W (Below.refl _ _) rfl
          simp only [putAll, Act.put, List.setIfInBounds_toArray, List.set_cons_succ, List.set_cons_zero] at fin
          exact fin
        · rintro vs W K hc hvl hkz hw hK
          obtain ⟨x0, x1, x2, x3, x4, x5, x6, x7, x8, rfl⟩ := len9 hvl
          have HK := Lib.hid hK
          have HC := Lib.hid hc
          have HW := Lib.hid hw
          clear hK hc hw hvl
          obtain rfl : x8 = .int .i64 LO := Option.some.inj (hkz (by decide))
          clear hkz
          simp only [putAll, Act.put, List.setIfInBounds_toArray, List.set_cons_succ, List.set_cons_zero]
          clear HW
          go_wp2_with fail
          have fin := HK.out (.int .i64 (k : Int)) W (Below.refl _ _) rfl
          simp only [putAll, Act.put, List.setIfInBounds_toArray, List.set_cons_succ, List.set_cons_zero] at fin
          exact fin
        · rintro vs W K hc hvl hkz hw hK
          obtain ⟨x0, x1, x2, x3, x4, x5, x6, x7, x8, rfl⟩ := len9 hvl
          have HK := Lib.hid hK
          have HC := Lib.hid hc
          have HW := Lib.hid hw
          clear hK hc hw hvl
          obtain rfl : x8 = .int .i64 LO := Option.some.inj (hkz (by decide))
          clear hkz
          obtain rfl : x1 = .slice (some ⟨g, o, none⟩) n c := box_get (HW.out ⟨1, .data⟩ (by simp) rfl) rfl
          obtain rfl : x2 = .int .i64 (k : Int) := box_get (HW.out ⟨2, .data⟩ (by simp) rfl) rfl
          simp only [putAll, Act.put, List.setIfInBounds_toArray, List.set_cons_succ, List.set_cons_zero]
          have hi1 := HK1.out
          clear HW
          go_wp2_with fail
          have fin := HK.out (.pointer (some ⟨g, o + k * 2, none⟩)) W (Below.refl _ _) rfl
          simp only [putAll, Act.put, List.setIfInBounds_toArray, List.set_cons_succ, List.set_cons_zero] at fin
          exact fin
        · rintro vs W K hc hvl hkz hw hK
          obtain ⟨x0, x1, x2, x3, x4, x5, x6, x7, x8, rfl⟩ := len9 hvl
          have HK := Lib.hid hK
          have HC := Lib.hid hc
          have HW := Lib.hid hw
          clear hK hc hw hvl
          obtain rfl : x8 = .int .i64 LO := Option.some.inj (hkz (by decide))
          clear hkz
          obtain rfl : x3 = .pointer (some ⟨g, o + k * 2, none⟩) := box_get (HW.out ⟨3, .data⟩ (by simp) rfl) rfl
          simp only [putAll, Act.put, List.setIfInBounds_toArray, List.set_cons_succ, List.set_cons_zero]
          have d0 := (HPK.out W HC.out).1
          have d1 := (HPK.out W HC.out).2
          clear HW
          go_wp2_with fail
          have fin := HK.out (.agg #[.int .i64 ak, .int .i64 bk]) W (Below.refl _ _) rfl
          simp only [putAll, Act.put, List.setIfInBounds_toArray, List.set_cons_succ, List.set_cons_zero] at fin
          exact fin
        · rintro vs W K hc hvl hkz hw hK
          obtain ⟨x0, x1, x2, x3, x4, x5, x6, x7, x8, rfl⟩ := len9 hvl
          have HK := Lib.hid hK
          have HC := Lib.hid hc
          have HW := Lib.hid hw
          clear hK hc hw hvl
          obtain rfl : x8 = .int .i64 LO := Option.some.inj (hkz (by decide))
          clear hkz
          simp only [putAll, Act.put, List.setIfInBounds_toArray, List.set_cons_succ, List.set_cons_zero]
          have rr := HRB.out.below HC.out HRB.out.lt
          have d0 := rr.cell 0
          have d1 := rr.cell 1
          simp only [List.getElem?_cons_zero, List.getElem?_cons_succ] at d0 d1
          clear rr
          clear HW
          go_wp2_with fail
          have fin := HK.out (.agg #[.int .i64 x, .int .i64 y]) W (Below.refl _ _) rfl
          simp only [putAll, Act.put, List.setIfInBounds_toArray, List.set_cons_succ, List.set_cons_zero] at fin
          exact fin
        · rintro vs W K hc hvl hkz hw hK
          obtain ⟨x0, x1, x2, x3, x4, x5, x6, x7, x8, rfl⟩ := len9 hvl
          have HK := Lib.hid hK
          have HC := Lib.hid hc
          have HW := Lib.hid hw
          clear hK hc hw hvl
          obtain rfl : x8 = .int .i64 LO := Option.some.inj (hkz (by decide))
          clear hkz
          obtain rfl : x4 = .agg #[.int .i64 ak, .int .i64 bk] := box_get (HW.out ⟨4, .data⟩ (by simp) rfl) rfl
          obtain rfl : x5 = .agg #[.int .i64 x, .int .i64 y] := box_get (HW.out ⟨5, .data⟩ (by simp) rfl) rfl
          simp only [putAll, Act.put, List.setIfInBounds_toArray, List.set_cons_succ, List.set_cons_zero]
          clear HW
          go_wp2_with fail
          refine (HFR.out W).mono ?_
          rintro e W' ⟨rfl, hb'⟩
          have HB' := Lib.hid hb'
          clear hb'
          go_wp2_with fail
          have fin := HK.out (.int .i64 MK) W' HB'.out rfl
          simp only [putAll, Act.put, List.setIfInBounds_toArray, List.set_cons_succ, List.set_cons_zero] at fin
          exact fin
        · rintro vs W K hc hvl hkz hw hK
          obtain ⟨x0, x1, x2, x3, x4, x5, x6, x7, x8, rfl⟩ := len9 hvl
          have HK := Lib.hid hK
          have HC := Lib.hid hc
          have HW := Lib.hid hw
          clear hK hc hw hvl
          obtain rfl : x8 = .int .i64 LO := Option.some.inj (hkz (by decide))
          clear hkz
          obtain rfl : x0 = .int .i64 LO := box_get (HW.out ⟨0, .data⟩ (by simp) rfl) rfl
          obtain rfl : x6 = .int .i64 MK := box_get (HW.out ⟨6, .data⟩ (by simp) rfl) rfl
          simp only [putAll, Act.put, List.setIfInBounds_toArray, List.set_cons_succ, List.set_cons_zero]
          clear HW
          go_wp2_with fail
          have fin := HK.out (.int .i64 (max LO MK)) W (Below.refl _ _) rfl
          simp only [putAll, Act.put, List.setIfInBounds_toArray, List.set_cons_succ, List.set_cons_zero] at fin
          exact fin
        · rintro vs W K hc hvl hkz hw hK
          obtain ⟨x0, x1, x2, x3, x4, x5, x6, x7, x8, rfl⟩ := len9 hvl
          have HK := Lib.hid hK
          have HC := Lib.hid hc
          have HW := Lib.hid hw
          clear hK hc hw hvl
          clear hkz
          obtain rfl : x7 = .int .i64 (max LO MK) := box_get (HW.out ⟨7, .data⟩ (by simp) rfl) rfl
          simp only [putAll, Act.put, List.setIfInBounds_toArray, List.set_cons_succ, List.set_cons_zero]
          clear HW
          go_wp2_with fail
          have fin := HK.out (.int .i64 (max LO MK)) W (Below.refl _ _) rfl
          simp only [putAll, Act.put, List.setIfInBounds_toArray, List.set_cons_succ, List.set_cons_zero] at fin
          exact fin
      case fin =>
        rintro vs W hJ
        obtain ⟨x0, x1, x2, x3, x4, x5, x6, x7, x8, rfl⟩ := len9 hJ.ln
        obtain rfl : x8 = .int .i64 (max LO MK) := box_get (hJ.val 8 rfl) rfl
        have HC := Lib.hid hJ.bl
        clear hJ
        simp only [putAll, Act.put, List.setIfInBounds_toArray, List.set_cons_succ, List.set_cons_zero]
        go_wp2_with fail
        exact ⟨⟨k + 1, by omega, rfl, by rw [HST.out], Lib.hid ⟨Below.andThen HB.out.1 HC.out (Nat.le_refl _), HRB.out.below HC.out HRB.out.lt⟩⟩, by simp [intOf]; omega⟩
    · have hd : decide ((k : Int) < (n : Int)) = false := decide_eq_false (by omega)
      have hdn : decide (k < n) = false := decide_eq_false hlt
      obtain rfl : k = n := by omega
      have HSV2 := Lib.hid (HSV.out.grow (Below.mono HB.out.1 (Nat.le_refl _)))
      have HA := Lib.hid (HAT.out (hiK (fun q => fd q (x, y)) ps k) wr HSV2.out)
      have HBW := Lib.hid HB.out.1
      have rq := HB.out.2
      have q0 := rq.cell 0
      have q1 := rq.cell 1
      simp only [List.getElem?_cons_zero, List.getElem?_cons_succ] at q0 q1
      clear rq HAT HB
      obtain ⟨LO, hLO⟩ : ∃ t, hiK (fun q => fd q (x, y)) ps k = t := ⟨_, rfl⟩
      rw [hLO] at HA ⊢
      have HLO := Lib.hid hLO
      clear hLO
      go_wp2_with fail
      refine HA.out.mono ?_
      rintro e w9 ⟨s, rfl, h8, h9⟩
      obtain ⟨a9, c9, rfl⟩ := own_sl h8
      have O9 := Lib.hid (owns_mono h8 HBW.out.size)
      have B9 := Lib.hid (Below.andThen HBW.out h9 (Nat.le_refl _))
      clear h8 h9 q0 q1
      go_wp2_with fail
      refine bodyPost_ret (v := .slice a9 (whL ps fun p => decide (fd p (x, y) = LO)).length c9) (by simp [results, Try.results50, go_sem]) rfl ⟨_, rfl, ?_, B9.out⟩
      rw [HLO.out]
      exact O9.out
end Go.Proofs.Ytlemipnplgbckaa
