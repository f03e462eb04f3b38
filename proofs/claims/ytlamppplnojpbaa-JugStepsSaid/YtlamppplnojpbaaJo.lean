import Derived.Test.YtlamppplnojpbaaJn
import Derived.Laws.AppendOwn
import Derived.Maps.OwnIn
import Derived.Maps.AppendAt
import Derived.RangeFuncNested
import Derived.RangeFuncBound
import Derived.RangeFuncCalls
import Derived.RangeFuncLeaves
import Derived.Shelf.Abstract
import Derived.Shelf.RegionOpen
import Derived.WalkKit
import Derived.WalkMore
import Derived.OwnWalkIn
import Derived.TacticsInMore
import Derived.LoopNIn
import Derived.LoopIn
import Derived.WalkSpells
import Derived.WalkLawsBesides
import Derived.BigQuiet
import Derived.Deep.QuietTactic
import Derived.Lib.Hide
import Derived.Deep.RegionHeld3
import Derived.StillTailTactics
import Derived.Deep.LoopGhost
import Derived.Maps.OwnSet
import Derived.Lib.IndexAny
import Derived.Sort.QuietThIn
import Derived.Sort.QuietTacIn
import Derived.Sort.BigQuietIn
namespace Go.Proofs.Ytlamppplnojpbaa
open Go.RowKit Go.Shelf
attribute [local go_sem] Oper.semAt_some
theorem field94 (x0 x1 x2 x3 x4 x5 x6 : Int) (W : World) : (Instr.field 94 (.agg #[.int .i64 x0, .int .i64 x1, .int .i64 x2, .int .i64 x3, .int .i64 x4, .int .i64 x5, .int .i64 x6]) 2).run Try.prog W = .ok (.int .i64 x6) W := by kernel_rfl
theorem bfs_pos {P : List Int} {gl : List Int → Bool} {ss : List (Int × Int)} {k : Nat} {A : Sn} {qs : List (List Int)} {r : Sn × Option (List Int)} (h : bfs P gl ss k A qs = some r) : 1 ≤ k := by
  cases k with
  | zero => simp [bfs] at h
  | succ k => omega
theorem bfs_next {P : List Int} {gl : List Int → Bool} {ss : List (Int × Int)} {k : Nat} {A : Sn} {q : List Int} {qs : List (List Int)} {r : Sn × Option (List Int)} {cn : Int} {t : Sn × List (List Int)} (h : bfs P gl ss k A (q :: qs) = some r) (hc : cntA A q = cn) (hv : visit P gl q cn ss (A, qs) = (t, none)) :
    bfs P gl ss (k - 1) t.1 t.2 = some r := by
  cases k with
  | zero => simp [bfs] at h
  | succ k =>
    rw [bfs] at h
    unfold cntA at hc
    rw [hc, hv] at h
    exact h
theorem bfs_stop {P : List Int} {gl : List Int → Bool} {ss : List (Int × Int)} {k : Nat} {A : Sn} {q : List Int} {qs : List (List Int)} {r : Sn × Option (List Int)} {cn : Int} {t : Sn × List (List Int)} {g : List Int} (h : bfs P gl ss k A (q :: qs) = some r) (hc : cntA A q = cn) (hv : visit P gl q cn ss (A, qs) = (t, some g)) :
    r = (t.1, some g) := by
  cases k with
  | zero => simp [bfs] at h
  | succ k =>
    rw [bfs] at h
    unfold cntA at hc
    rw [hc, hv] at h
    exact (Option.some.inj h).symm
theorem stepsL_len (ls : Int) (m : Nat) (hm : m ≤ 5) : (stepsL ls m).length ≤ 25 := by
  have h1 := flat_len (fun a : Nat => rowL ls (ls + (a : Int)) m) m (fun a => rowL_len _ _ _) m
  have h2 : m * m ≤ 5 * 5 := Nat.mul_le_mul hm hm
  unfold stepsL
  omega
theorem lp_next {w W3 W4 W' : World} {S R H : Nat} {F : List Int} {fd fg : Value} {P : List Int} {gl : List Int → Bool} {k : Nat} {A : Sn} {q : List Int} {qs : List (List Int)} {v v' : Value} {cn : Int} {t : Sn × List (List Int)} {ls : Int} {m n : Nat}
    (hL : Lp w S R F fd fg P k A qs v W3) (hk : 1 ≤ k) (hn : n ≤ 4) (hls : ls = -1 ∨ ls = 0) (hm : (n : Int) = ls + (m : Int)) (hfq : FitP P q) (hcn : 1 ≤ cn ∧ cn + k ≤ 1000001) (hv : visit P gl q cn (stepsL ls m) (A, qs) = (t, none))
    (hr : Rd w W4 S R H F fd fg q cn t.1 t.2 v' W') : Lp w S R F fd fg P (k - 1) t.1 t.2 v' W' := by
  have hx := visit_len _ _ _ _ hv
  have hl := hL.len
  have h25 := stepsL_len ls m (by omega)
  dsimp only at hx
  have hkeep := visit_keeps (P := P) (gl := gl) (here := q) (cnt := cn) (fun F => FitP P F) (fun c => c.frm.length = 4 ∧ 0 ≤ c.k ∧ c.k + (k - 1 : Nat) ≤ 1000000) (stepsL ls m) (A, qs) t none
    (fun x hx => by
      have hs := mem_step hx
      exact ⟨hfq.after (by omega) (by omega) hs.2.2.2.2, hfq.1, by dsimp only; omega, by dsimp only; omega⟩)
    (fun p hp => by have h := hL.okA p hp; exact ⟨h.1, h.2.1, h.2.2.1, by have := h.2.2.2; omega⟩) hL.okQ hv
  exact ⟨hr.b, hr.rR, hr.rQ, hr.q, fun g e => ⟨(hr.ap g e).1, (hr.ap g e).2.1⟩, hr.sn, hr.bw, hr.hR, ⟨by omega, by omega⟩, hkeep.1, hkeep.2⟩
theorem rd_start {w W3 : World} {S R H : Nat} {F : List Int} {fd fg : Value} {P : List Int} {k : Nat} {A : Sn} {q : List Int} {qs : List (List Int)} {v : Value} (hL : Lp w S R F fd fg P k A qs v W3) (h7 : Row W3 H 77 (q.map encI)) (hz : W3.heap.size = H + 1) (hR2 : R + 1 + 1 < H) (hg : ∀ g, v.ownBlock = some g → g < H) (cn : Int) :
    Rd w (W3.alloc (.cells #[.int .i64 cn] 3)) S R H F fd fg q cn A qs v (W3.alloc (.cells #[.int .i64 cn] 3)) := by
  have b := (Below.refl W3.heap.size W3).alloc (Nat.le_refl _) (.cells #[.int .i64 cn] 3)
  have r := Row.new W3 3 [.int .i64 cn]
  have G : W3.grownBy (W3.alloc (.cells #[.int .i64 cn] 3)) none := ⟨b.os, b.tape, b.output, b.size, fun k hk _ => b.block k hk⟩
  rw [hz] at r
  exact ⟨hL.b.below b hL.b.rS.lt, hL.rR.below b hL.rR.lt, hL.rQ.below b hL.rQ.lt, h7.below b h7.lt, r, hL.q.kept G (fun e => by obtain ⟨_, g, o, c, cur, rfl, _⟩ := hL.q; simp [Value.ownBlock] at e), fun g e => ⟨(hL.ap g e).1, (hL.ap g e).2, by have := hg g e; omega, by have := hg g e; omega⟩, hL.sn.grow b,
    Below.andThen hL.bw b (Nat.le_refl _), hL.hR, hR2, fun p hp => (hL.okA p hp).2.1, fun D _ h => h⟩
theorem pop_row {w W3 : World} {S R g : Nat} {F : List Int} {fd fg : Value} {P : List Int} {k : Nat} {A : Sn} {qs : List (List Int)} {v : Value} {E : TypeId} {vs : List Value} (h : Row w g E vs) (hL : Lp w S R F fd fg P k A qs v W3) (o : Obj) : Row (W3.alloc o) g E vs :=
  h.below (Below.andThen hL.bw ((Below.refl W3.heap.size W3).alloc (Nat.le_refl _) o) (Nat.le_refl _)) h.lt
/-- the marks, and one more -/
theorem marks_next {w W W3 W' : World} {R D : Nat} {ds : List Deferred}
    (h : Marks R ds W) (hrR : Row W R 89 [.map (some (w.heap.size + 1 + 1 + 1 + 1)), .int .i64 0, .int .i64 0, .int .i64 0, .int .i64 0, .bool false]) (h3 : ∀ D', R < D' → W.heap[D']? = some (.deferred (some [])) → W3.heap[D']? = some (.deferred (some []))) (hz : W.heap.size ≤ W3.heap.size) (hm : ∀ D', R < D' → W3.heap[D']? = some (.deferred (some [])) → W'.heap[D']? = some (.deferred (some []))) (hD : W3.heap.size ≤ D)
    (hd : W'.heap[D]? = some (.deferred (some []))) : Marks R ({ target := .collected D, args := #[] } :: ds) W' :=
  h.cons (by omega) (by have := hrR.lt; omega) (fun D' hB hd' => by
    have hne : R ≠ D' := fun e => by subst e; rw [show W.heap[R]? = _ from hrR] at hd'; cases hd'
    exact hm D' (by omega) (h3 D' (by omega) hd')) hd
theorem pop_mark {W : World} {R D : Nat} {o o2 : Obj} {v v0 : Value} (rQ : Row W (R + 1 + 1) 102 [v0]) (h : W.heap[D]? = some (.deferred (some []))) : (((W.alloc o).setCell ⟨R + 1 + 1, 0, none⟩ v).alloc o2).heap[D]? = some (.deferred (some [])) := by
  have b := (Below.refl W.heap.size W).alloc (Nat.le_refl _) o
  have h2 : (W.alloc o).heap[D]? = some (.deferred (some [])) := by rw [b.block D (Array.getElem?_eq_some_iff.1 h).1]; exact h
  have h3 := mark_row h2 (one_set (W.alloc o) (R + 1 + 1) 0 v) (rQ.below b rQ.lt)
  have b4 := (Below.refl ((W.alloc o).setCell ⟨R + 1 + 1, 0, none⟩ v).heap.size ((W.alloc o).setCell ⟨R + 1 + 1, 0, none⟩ v)).alloc (Nat.le_refl _) o2
  rw [b4.block D (Array.getElem?_eq_some_iff.1 h3).1]; exact h3
set_option maxRecDepth 100000 in
set_option maxHeartbeats 1000000 in
theorem search_walk (f0 f1 f2 f3 : Int) (gl : List Int → Bool) (G : FuncId) (caps : Array Value) (n : Nat) (p0 p1 p2 p3 ls : Int) (m : Nat) (hn : n ≤ 4) (hls : ls = -1 ∨ ls = 0) (hm : (n : Int) = ls + (m : Int)) (bl bj : Nat) (w : World) (rl : Row w bl 3 [.int .i64 ls]) (rj : Row w bj 80 [.int .i64 (n : Int), .int .i64 p0, .int .i64 p1, .int .i64 p2, .int .i64 p3])
   (hf : Fok [f0, f1, f2, f3])
  (hen : ∀ args W, (callFunc G args).run Try.prog W = .ok (.enter G args) W)
  (hg : ∀ W x0 x1 x2 x3, Below w.heap.size w W → Fok [x0, x1, x2, x3] → Calls Try.prog G (#[.agg #[.int .i64 x0, .int .i64 x1, .int .i64 x2, .int .i64 x3]] ++ caps) W fun e w' => e = .returned (.bool (gl [x0, x1, x2, x3])) ∧ Below W.heap.size W w')
  (hgl : gl [f0, f1, f2, f3] = false) (hfit : FitP [p0, p1, p2, p3] [f0, f1, f2, f3]) (k : Nat) (hk : k ≤ 30000) (res : Sn × Option (List Int)) (hbfs : bfs [p0, p1, p2, p3] gl (stepsL ls m) k [([f0, f1, f2, f3], c0)] [[f0, f1, f2, f3]] = some res) :
    Calls Try.prog 57 #[.agg #[.int .i64 f0, .int .i64 f1, .int .i64 f2, .int .i64 f3], .func (.func 70) #[] #[.pointer (some ⟨bl, 0, none⟩), .pointer (some ⟨bj, 0, none⟩)], .func (.func 54) #[.agg #[.int .i64 (n : Int), .int .i64 p0, .int .i64 p1, .int .i64 p2, .int .i64 p3]] #[], .func (.func G) #[] caps] w fun e w' => e = .returned (.agg #[.map (some (w.heap.size + 1 + 1 + 1 + 1)), .int .i64 ((res.2.getD [0, 0, 0, 0]).getD 0 0), .int .i64 ((res.2.getD [0, 0, 0, 0]).getD 1 0), .int .i64 ((res.2.getD [0, 0, 0, 0]).getD 2 0), .int .i64 ((res.2.getD [0, 0, 0, 0]).getD 3 0), .bool res.2.isSome]) ∧ SeenAt w' (w.heap.size + 1 + 1 + 1 + 1) res.1.length (seenV res.1) ∧ Below w.heap.size w w' := by
  have HRL := Lib.hid rl
  have HRJ := Lib.hid rj
  have hbl := rl.lt
  have hbj := rj.lt
  have HM0 := Lib.hid hm
  have HLS := Lib.hid hls
  clear rl rj hm hls
  have HG := Lib.hid hg
  have HBF := Lib.hid hbfs
  clear hbfs
  have HE := Lib.hid hen
  clear hg hen
  have HF := Lib.hid hf
  obtain ⟨V, W1, S, hr, hV, hW, hz, hB, hs, bw⟩ := search_start2 w f0 f1 f2 f3 hf (.func (.func 54) #[.agg #[.int .i64 (n : Int), .int .i64 p0, .int .i64 p1, .int .i64 p2, .int .i64 p3]] #[]) (.func (.func G) #[] caps)
  clear hf
  have HS := Lib.hid hs
  have HR := Lib.hid hr
  have HB := Lib.hid hB
  have HW := Lib.hid hW
  have HV := Lib.hid hV
  have HZ := Lib.hid hz
  clear hr hs hV hW hz
  have hmm := @run_makeMap Try.prog
  refine callsIn_wide.1 (callsIn_of_wp_marks (F := Fence.wide) (n := 4) Try.func57 rfl trivial (wpIn_wide.2 ?_) rfl)
  simp only [Try.ntmps57, List.size_toArray, List.length_cons, List.length_nil, Nat.reduceAdd, Nat.reduceSub, Array.replicate_succ, Array.replicate_zero, List.push_toArray, List.append_toArray, List.nil_append, List.cons_append]
  go_wp2_with fail
  go_step3
  go_wp2_with fail
  rw [HR.out, Result.andThen_ok]
  have c2 : W1.cell? ⟨w.heap.size + 1 + 1, 0, none⟩ = some (.func (.func G) #[] caps) := hB.r2.cell 0
  have q0 : W1.cell? ⟨w.heap.size, 0, none⟩ = some (.int .i64 f0) := hB.r0.cell 0
  have q1 : W1.cell? ⟨w.heap.size, 1, none⟩ = some (.int .i64 f1) := hB.r0.cell 1
  have q2 : W1.cell? ⟨w.heap.size, 2, none⟩ = some (.int .i64 f2) := hB.r0.cell 2
  have q3 : W1.cell? ⟨w.heap.size, 3, none⟩ = some (.int .i64 f3) := hB.r0.cell 3
  rw [← HW.out] at c2 q0 q1 q2 q3
  clear hB
  go_wp2_with fail
  rw [HE.out, Oper.upon_enter]
  clear c2 q0 q1 q2 q3
  rw [HW.out, HV.out]
  refine (HG.out _ f0 f1 f2 f3 bw HF.out).mono ?_
  rintro e w1 ⟨rfl, hb1⟩
  rw [hgl]
  have hB1 := HB.out.below hb1 (by rw [HZ.out]; omega)
  have hs1 := HS.out.grow hb1
  have cS : w1.cell? ⟨S, 0, none⟩ = some (.map (some (w.heap.size + 1 + 1 + 1 + 1))) := hB1.rS.cell 0
  have hB2 : SrB (w1.alloc (.cells #[.map (some (w.heap.size + 1 + 1 + 1 + 1)), .int .i64 0, .int .i64 0, .int .i64 0, .int .i64 0, .bool false] 89)) w.heap.size S [f0, f1, f2, f3] (.func (.func 54) #[.agg #[.int .i64 (n : Int), .int .i64 p0, .int .i64 p1, .int .i64 p2, .int .i64 p3]] #[]) (.func (.func G) #[] caps) :=
    hB1.below ((Below.refl _ _).alloc (Nat.le_refl _) _) hB1.rS.lt
  have q0 : (w1.alloc (.cells #[.map (some (w.heap.size + 1 + 1 + 1 + 1)), .int .i64 0, .int .i64 0, .int .i64 0, .int .i64 0, .bool false] 89)).cell? ⟨w.heap.size, 0, none⟩ = some (.int .i64 f0) := hB2.r0.cell 0
  have q1 : (w1.alloc (.cells #[.map (some (w.heap.size + 1 + 1 + 1 + 1)), .int .i64 0, .int .i64 0, .int .i64 0, .int .i64 0, .bool false] 89)).cell? ⟨w.heap.size, 1, none⟩ = some (.int .i64 f1) := hB2.r0.cell 1
  have q2 : (w1.alloc (.cells #[.map (some (w.heap.size + 1 + 1 + 1 + 1)), .int .i64 0, .int .i64 0, .int .i64 0, .int .i64 0, .bool false] 89)).cell? ⟨w.heap.size, 2, none⟩ = some (.int .i64 f2) := hB2.r0.cell 2
  have q3 : (w1.alloc (.cells #[.map (some (w.heap.size + 1 + 1 + 1 + 1)), .int .i64 0, .int .i64 0, .int .i64 0, .int .i64 0, .bool false] 89)).cell? ⟨w.heap.size, 3, none⟩ = some (.int .i64 f3) := hB2.r0.cell 3
  have HB1 := Lib.hid hB1
  have HS1 := Lib.hid hs1
  have HL := Lib.hid (lp_start w w1 S f0 f1 f2 f3 (.func (.func 54) #[.agg #[.int .i64 (n : Int), .int .i64 p0, .int .i64 p1, .int .i64 p2, .int .i64 p3]] #[]) (.func (.func G) #[] caps) [p0, p1, p2, p3] k hk hfit hB1 hs1 (Below.andThen bw hb1 (Nat.le_refl _)))
  have HK1 := Lib.hid hb1
  clear hs1 hB1 hB2 hb1 hbl hbj bw
  go_wp2_with fail
  go_step3
  go_wp2_with fail
  refine wp_loop_ghost (fun (k : Nat) (a : Act) (W : World) => ∃ (u12 u13 u14 u15 u16 u17 u18 u19 u20 u21 u22 u23 u24 u25 u26 u27 u28 u29 u30 u31 u32 u33 u34 u35 u36 u37 u38 u39 u40 u41 u42 u43 u44 u45 u46 u47 u48 u49 u50 u51 u52 u53 u54 u55 u56 u57 u58 u59 u60 u61 u62 u63 u64 u65 u66 u67 u68 u69 u70 u71 u72 u73 u74 : Value) (ds : List Deferred) (A : Sn) (qs : List (List Int)) (v : Value), a = { tmps := #[.agg #[.int .i64 f0, .int .i64 f1, .int .i64 f2, .int .i64 f3], .func (.func 70) #[] #[.pointer (some ⟨bl, 0, none⟩), .pointer (some ⟨bj, 0, none⟩)], .func (.func 54) #[.agg #[.int .i64 (n : Int), .int .i64 p0, .int .i64 p1, .int .i64 p2, .int .i64 p3]] #[], .func (.func G) #[] caps, .pointer (some ⟨w.heap.size, 0, none⟩), undef, .pointer (some ⟨w.heap.size + 1, 0, none⟩), .pointer (some ⟨w.heap.size + 1 + 1, 0, none⟩), .pointer (some ⟨w.heap.size + 1 + 1 + 1, 0, none⟩), .pointer (some ⟨S, 0, none⟩), .pointer (some ⟨w1.heap.size, 0, none⟩), .pointer (some ⟨w1.heap.size + 1 + 1, 0, none⟩), u12, u13, u14, u15, u16, u17, u18, u19, u20, u21, u22, u23, u24, u25, u26, u27, u28, u29, u30, u31, u32, u33, u34, u35, u36, u37, u38, u39, u40, u41, u42, u43, u44, u45, u46, u47, u48, u49, u50, u51, u52, u53, u54, u55, u56, u57, u58, u59, u60, u61, u62, u63, u64, u65, u66, u67, u68, u69, u70, u71, u72, u73, u74], defers := ds } ∧ Marks w1.heap.size ds W ∧ Lp w S w1.heap.size [f0, f1, f2, f3] (.func (.func 54) #[.agg #[.int .i64 (n : Int), .int .i64 p0, .int .i64 p1, .int .i64 p2, .int .i64 p3]] #[]) (.func (.func G) #[] caps) [p0, p1, p2, p3] k A qs v W ∧ bfs [p0, p1, p2, p3] gl (stepsL ls m) k A qs = some res) k ?start ?round
  case start =>
    exact ⟨_, _, _, _, _, _, _, _, _, _, _, _, _, _, _, _, _, _, _, _, _, _, _, _, _, _, _, _, _, _, _, _, _, _, _, _, _, _, _, _, _, _, _, _, _, _, _, _, _, _, _, _, _, _, _, _, _, _, _, _, _, _, _, [], _, _, _, rfl, marks_nil _ _, HL.out, HBF.out⟩
  case round =>
    rintro k a W ⟨u12, u13, u14, u15, u16, u17, u18, u19, u20, u21, u22, u23, u24, u25, u26, u27, u28, u29, u30, u31, u32, u33, u34, u35, u36, u37, u38, u39, u40, u41, u42, u43, u44, u45, u46, u47, u48, u49, u50, u51, u52, u53, u54, u55, u56, u57, u58, u59, u60, u61, u62, u63, u64, u65, u66, u67, u68, u69, u70, u71, u72, u73, u74, ds, A, qs, v, rfl, hm, hl, hbf⟩
    dsimp only
    obtain ⟨h4, g, off, cap, cur, rfl, hb0, hh, hc, hmx, hsz, htk⟩ := hl.q
    cases qs with
    | nil =>
      have cQ : W.cell? ⟨w1.heap.size + 1 + 1, 0, none⟩ = some (.slice (some ⟨g, off, none⟩) 0 cap) := hl.rQ.cell 0
      have p0 : W.cell? ⟨w1.heap.size, 0, none⟩ = some (.map (some (w.heap.size + 1 + 1 + 1 + 1))) := hl.rR.cell 0
      have p1 : W.cell? ⟨w1.heap.size, 1, none⟩ = some (.int .i64 0) := hl.rR.cell 1
      have p2 : W.cell? ⟨w1.heap.size, 2, none⟩ = some (.int .i64 0) := hl.rR.cell 2
      have p3 : W.cell? ⟨w1.heap.size, 3, none⟩ = some (.int .i64 0) := hl.rR.cell 3
      have p4 : W.cell? ⟨w1.heap.size, 4, none⟩ = some (.int .i64 0) := hl.rR.cell 4
      have p5 : W.cell? ⟨w1.heap.size, 5, none⟩ = some (.bool false) := hl.rR.cell 5
      have t0 : W.cell? ⟨w.heap.size + 1 + 1 + 1, 0, none⟩ = some (.map none) := hl.b.r3.cell 0
      have k0 := frozen_of_row W (w.heap.size + 1 + 1 + 1) 0 _ _ hl.b.r3
      have t1 : W.cell? ⟨w.heap.size + 1 + 1 + 1, 1, none⟩ = some (.int .i64 0) := hl.b.r3.cell 1
      have k1 := frozen_of_row W (w.heap.size + 1 + 1 + 1) 1 _ _ hl.b.r3
      have t2 : W.cell? ⟨w.heap.size + 1 + 1 + 1, 2, none⟩ = some (.int .i64 0) := hl.b.r3.cell 2
      have k2 := frozen_of_row W (w.heap.size + 1 + 1 + 1) 2 _ _ hl.b.r3
      have t3 : W.cell? ⟨w.heap.size + 1 + 1 + 1, 3, none⟩ = some (.int .i64 0) := hl.b.r3.cell 3
      have k3 := frozen_of_row W (w.heap.size + 1 + 1 + 1) 3 _ _ hl.b.r3
      have t4 : W.cell? ⟨w.heap.size + 1 + 1 + 1, 4, none⟩ = some (.int .i64 0) := hl.b.r3.cell 4
      have k4 := frozen_of_row W (w.heap.size + 1 + 1 + 1) 4 _ _ hl.b.r3
      have t5 : W.cell? ⟨w.heap.size + 1 + 1 + 1, 5, none⟩ = some (.bool false) := hl.b.r3.cell 5
      have k5 := frozen_of_row W (w.heap.size + 1 + 1 + 1) 5 _ _ hl.b.r3
      have HL := Lib.hid hl
      have HM := Lib.hid hm
      have HB := Lib.hid hbf
      clear hl hm hbf htk hh hsz hmx hc hb0 h4
      go_wp2_with fail
      rw [Exit.noGoto_ret]
      have hres : res = (A, none) := by
        have h := HB.out
        cases k with
        | zero => simp [bfs] at h
        | succ k => rw [bfs] at h; cases h; rfl
      subst hres
      have hr3 := (((((HL.out.b.r3.set 0 (.map (some (w.heap.size + 1 + 1 + 1 + 1)))).set 1 (.int .i64 0)).set 2 (.int .i64 0)).set 3 (.int .i64 0)).set 4 (.int .i64 0)).set 5 (.bool false)
      have hN := HL.out.b.hS
      have hSR := HL.out.hR
      have hsz3 := HL.out.b.r3.lt
      have G6 : W.grownBy ((((((W.setCell ⟨w.heap.size + 1 + 1 + 1, 0, none⟩ (.map (some (w.heap.size + 1 + 1 + 1 + 1)))).setCell ⟨w.heap.size + 1 + 1 + 1, 1, none⟩ (.int .i64 0)).setCell ⟨w.heap.size + 1 + 1 + 1, 2, none⟩ (.int .i64 0)).setCell ⟨w.heap.size + 1 + 1 + 1, 3, none⟩ (.int .i64 0)).setCell ⟨w.heap.size + 1 + 1 + 1, 4, none⟩ (.int .i64 0)).setCell ⟨w.heap.size + 1 + 1 + 1, 5, none⟩ (.bool false)) (some (w.heap.size + 1 + 1 + 1)) := six_set W _ _ _ _ _ _ _
      generalize ((((((W.setCell ⟨w.heap.size + 1 + 1 + 1, 0, none⟩ (.map (some (w.heap.size + 1 + 1 + 1 + 1)))).setCell ⟨w.heap.size + 1 + 1 + 1, 1, none⟩ (.int .i64 0)).setCell ⟨w.heap.size + 1 + 1 + 1, 2, none⟩ (.int .i64 0)).setCell ⟨w.heap.size + 1 + 1 + 1, 3, none⟩ (.int .i64 0)).setCell ⟨w.heap.size + 1 + 1 + 1, 4, none⟩ (.int .i64 0)).setCell ⟨w.heap.size + 1 + 1 + 1, 5, none⟩ (.bool false)) = W6 at *
      refine leaves_marks (B := w1.heap.size) (fun X => Row X (w.heap.size + 1 + 1 + 1) 89 [.map (some (w.heap.size + 1 + 1 + 1 + 1)), .int .i64 0, .int .i64 0, .int .i64 0, .int .i64 0, .bool false] ∧ SeenAt X (w.heap.size + 1 + 1 + 1 + 1) A.length (seenV A) ∧ Below w.heap.size w X)
        ((lasts_row _ _ _ _).and ((lasts_seen _ _ _ _ (by omega)).and (lasts_below _ _ _ (by omega) (Nat.le_refl _)))) ?leave ds _ (HM.out.keeps (fun D hD hd => by rw [G6.block D (Array.getElem?_eq_some_iff.1 hd).1 (fun e => by have := Option.some.inj e; omega)]; exact hd)) ⟨hr3, HL.out.sn.kept G6 (fun e => by have := Option.some.inj e; omega), HL.out.bw.grown G6 HL.out.bw.size (fun k e => by have := Option.some.inj e; omega)⟩
      rintro X ⟨x3, xs, xb⟩
      have e0 : X.cell? ⟨w.heap.size + 1 + 1 + 1, 0, none⟩ = some (.map (some (w.heap.size + 1 + 1 + 1 + 1))) := x3.cell 0
      have e1 : X.cell? ⟨w.heap.size + 1 + 1 + 1, 1, none⟩ = some (.int .i64 0) := x3.cell 1
      have e2 : X.cell? ⟨w.heap.size + 1 + 1 + 1, 2, none⟩ = some (.int .i64 0) := x3.cell 2
      have e3 : X.cell? ⟨w.heap.size + 1 + 1 + 1, 3, none⟩ = some (.int .i64 0) := x3.cell 3
      have e4 : X.cell? ⟨w.heap.size + 1 + 1 + 1, 4, none⟩ = some (.int .i64 0) := x3.cell 4
      have e5 : X.cell? ⟨w.heap.size + 1 + 1 + 1, 5, none⟩ = some (.bool false) := x3.cell 5
      refine ⟨.agg #[.map (some (w.heap.size + 1 + 1 + 1 + 1)), .int .i64 0, .int .i64 0, .int .i64 0, .int .i64 0, .bool false], ?_, rfl, xs, xb⟩
      simp [results, Try.results57, go_sem, e0, e1, e2, e3, e4, e5]
    | cons q qs =>
      obtain ⟨q0, q1, q2, q3, rfl⟩ := agg4 q (h4 q (by simp))
      obtain ⟨g', off', cap', he, hc', hq4⟩ := hl.q.head
      cases he
      have cQ : W.cell? ⟨w1.heap.size + 1 + 1, 0, none⟩ = some (.slice (some ⟨g, off, none⟩) (qs.length + 1) cap) := hl.rQ.cell 0
      have d0 : W.cell? ⟨g, off, none⟩ = some (.int .i64 q0) := by simpa using hq4 0 (by simp)
      have d1 : W.cell? ⟨g, off + 1, none⟩ = some (.int .i64 q1) := by simpa using hq4 1 (by simp)
      have d2 : W.cell? ⟨g, off + 2, none⟩ = some (.int .i64 q2) := by simpa using hq4 2 (by simp)
      have d3 : W.cell? ⟨g, off + 3, none⟩ = some (.int .i64 q3) := by simpa using hq4 3 (by simp)
      have cQ2 : (W.alloc (.cells #[.int .i64 q0, .int .i64 q1, .int .i64 q2, .int .i64 q3] 77)).cell? ⟨w1.heap.size + 1 + 1, 0, none⟩ = some (.slice (some ⟨g, off, none⟩) (qs.length + 1) cap) := (hl.rQ.below ((Below.refl _ _).alloc (Nat.le_refl _) _) hl.rQ.lt).cell 0
      have kQ2 := frozen_of_row (W.alloc (.cells #[.int .i64 q0, .int .i64 q1, .int .i64 q2, .int .i64 q3] 77)) (w1.heap.size + 1 + 1) 0 _ _ (hl.rQ.below ((Below.refl _ _).alloc (Nat.le_refl _) _) hl.rQ.lt)
      have HL := Lib.hid hl
      have HM := Lib.hid hm
      have HB := Lib.hid hbf
      have HK0 := Lib.hid (bfs_pos hbf)
      have HHG := Lib.hid (show g < W.heap.size from (Array.getElem?_eq_some_iff.1 hh).1)
      have hc1 : 1 ≤ cap := by omega
      have fq := (hl.okQ [q0, q1, q2, q3] List.mem_cons_self).fok
      rcases (show cap = 1 ∨ 1 < cap by omega) with hcc | hcc
      · subst hcc
        obtain ⟨hL3, r3, z3⟩ := lp_pop hl off 0 (.inr ⟨rfl, rfl, rfl⟩)
        have hq0 : qs.length = 0 := by simpa using hc
        rw [hq0] at hL3 r3 z3
        have HQ0 := Lib.hid hq0
        clear hq0
        have cS3 : ((W.alloc (.cells #[.int .i64 q0, .int .i64 q1, .int .i64 q2, .int .i64 q3] 77)).setCell ⟨w1.heap.size + 1 + 1, 0, none⟩ (.slice (some ⟨g, off, none⟩) 0 0)).cell? ⟨S, 0, none⟩ = some (.map (some (w.heap.size + 1 + 1 + 1 + 1))) := hL3.b.rS.cell 0
        have m0 : ((W.alloc (.cells #[.int .i64 q0, .int .i64 q1, .int .i64 q2, .int .i64 q3] 77)).setCell ⟨w1.heap.size + 1 + 1, 0, none⟩ (.slice (some ⟨g, off, none⟩) 0 0)).cell? ⟨W.heap.size, 0, none⟩ = some (.int .i64 q0) := r3.cell 0
        have m1 : ((W.alloc (.cells #[.int .i64 q0, .int .i64 q1, .int .i64 q2, .int .i64 q3] 77)).setCell ⟨w1.heap.size + 1 + 1, 0, none⟩ (.slice (some ⟨g, off, none⟩) 0 0)).cell? ⟨W.heap.size, 1, none⟩ = some (.int .i64 q1) := r3.cell 1
        have m2 : ((W.alloc (.cells #[.int .i64 q0, .int .i64 q1, .int .i64 q2, .int .i64 q3] 77)).setCell ⟨w1.heap.size + 1 + 1, 0, none⟩ (.slice (some ⟨g, off, none⟩) 0 0)).cell? ⟨W.heap.size, 2, none⟩ = some (.int .i64 q2) := r3.cell 2
        have m3 : ((W.alloc (.cells #[.int .i64 q0, .int .i64 q1, .int .i64 q2, .int .i64 q3] 77)).setCell ⟨w1.heap.size + 1 + 1, 0, none⟩ (.slice (some ⟨g, off, none⟩) 0 0)).cell? ⟨W.heap.size, 3, none⟩ = some (.int .i64 q3) := r3.cell 3
        obtain ⟨x0, x1, x2, x3, x4, x5, hlk⟩ := look_here hL3.sn fq (fun p hp => (hL3.okA p hp).2.1)
        have HLK := Lib.hid hlk
        have HL3 := Lib.hid hL3
        have HZ3 := Lib.hid z3
        have H7 := Lib.hid r3
        have hcnt : 1 ≤ cntA A [q0, q1, q2, q3] ∧ cntA A [q0, q1, q2, q3] ≤ 1000001 := by
          unfold cntA
          cases hlA : lookA A [q0, q1, q2, q3] with
          | none => simp
          | some c => have := (hl.okA _ (lookA_mem _ _ _ hlA)).2; dsimp only at this; simp only [Option.map_some, Option.getD_some]; omega
        have HFQ := Lib.hid (hl.okQ [q0, q1, q2, q3] List.mem_cons_self)
        have HCK := Lib.hid (show cntA A [q0, q1, q2, q3] + k ≤ 1000001 by
          have hk1 := hl.len
          unfold cntA
          cases hlA : lookA A [q0, q1, q2, q3] with
          | none => simp only [Option.map_none, Option.getD_none]; omega
          | some c => have := (hl.okA _ (lookA_mem _ _ _ hlA)).2; dsimp only at this; simp only [Option.map_some, Option.getD_some]; omega)
        generalize hcq : cntA A [q0, q1, q2, q3] = cn at *
        have HCN := Lib.hid hcq
        obtain ⟨hcn1, hcn2⟩ := hcnt
        clear hl hm hbf htk hh hsz hmx hc hb0 h4 hq4 hL3 r3 z3 hlk fq hcq
        go_wp2_with fail
        rw [HLK.out, Result.andThen_ok]
        have hwr : IntKind.i64.wrap (cn - 1 + 1) = cn := by rw [show cn - 1 + 1 = cn by omega]; exact i64_of cn (by omega) (by omega)
        go_wp2_with fail
        rw [field94, Result.andThen_ok]
        go_wp2_with fail
        refine search_range f0 f1 f2 f3 q0 q1 q2 q3 cn gl G caps n p0 p1 p2 p3 ls m hn HLS.out HM0.out bl bj S w1.heap.size W.heap.size w _ _ _ _ _ _ _ _ _ _ _ _ _ _ _ _ _ _ _ _ _ _ _ _ _ _ _ _ _ _ _ _ _ _ _ _ _ _ _ _ _ _ _ _ _ _ _ _ _ _ _ _ _ _ _ _ _ _ _ _ ds _ _ A qs (.slice (some ⟨g, off, none⟩) 0 0) ?crl1 ?crj1 ?chd1 ?chs1 ?cln1 ?clq1 HE.out HG.out HRL.out.lt HRJ.out.lt HFQ.out ?cdone1 ?cstop1 _ (by kernel_rfl)
        case crl1 => exact pop_row HRL.out HL3.out _
        case crj1 => exact pop_row HRJ.out HL3.out _
        case chd1 => exact rd_start HL3.out H7.out HZ3.out (by have := HL.out.rQ.lt; omega) (fun g2 he => by have := HHG.out; simp only [Value.ownBlock, Option.map_some, Option.some.injEq] at he; omega) cn
        case chs1 => rw [size_al, HZ3.out]; omega
        case cln1 => have := HL3.out.len; have := HK0.out; omega
        case clq1 => exact HL3.out.len.2
        case cdone1 =>
          intro D t v' W' hD hv hr hd
          have HV := Lib.hid hv
          have HR := Lib.hid hr
          have HD := Lib.hid hD
          have HDF := Lib.hid hd
          clear hv hr hD hd
          dsimp only
          refine ⟨k - 1, by have := HK0.out; omega, _, _, _, _, _, _, _, _, _, _, _, _, _, _, _, _, _, _, _, _, _, _, _, _, _, _, _, _, _, _, _, _, _, _, _, _, _, _, _, _, _, _, _, _, _, _, _, _, _, _, _, _, _, _, _, _, _, _, _, _, _, _, _, _, t.1, t.2, v', rfl, ?_, ?_, bfs_next HB.out HCN.out HV.out⟩
          · exact marks_next HM.out HL.out.rR (fun D' _ h => pop_mark HL.out.rQ h) (by rw [size_al, HZ3.out]; omega) HR.out.mrk HD.out HDF.out
          · exact lp_next HL3.out HK0.out hn HLS.out HM0.out HFQ.out ⟨hcn1, HCK.out⟩ HV.out HR.out
        case cstop1 =>
          intro D t g0 g1 g2 g3 W' hD hv hr hd
          have HV := Lib.hid hv
          have HX := Lib.hid hr
          have HD := Lib.hid hD
          have HDF := Lib.hid hd
          have hres : res = (t.1, some [g0, g1, g2, g3]) := bfs_stop HB.out HCN.out HV.out
          subst hres
          have p0 : W'.cell? ⟨w1.heap.size, 0, none⟩ = some (.map (some (w.heap.size + 1 + 1 + 1 + 1))) := hr.rR.cell 0
          have p1 : W'.cell? ⟨w1.heap.size, 1, none⟩ = some (.int .i64 g0) := hr.rR.cell 1
          have p2 : W'.cell? ⟨w1.heap.size, 2, none⟩ = some (.int .i64 g1) := hr.rR.cell 2
          have p3 : W'.cell? ⟨w1.heap.size, 3, none⟩ = some (.int .i64 g2) := hr.rR.cell 3
          have p4 : W'.cell? ⟨w1.heap.size, 4, none⟩ = some (.int .i64 g3) := hr.rR.cell 4
          have p5 : W'.cell? ⟨w1.heap.size, 5, none⟩ = some (.bool true) := hr.rR.cell 5
          have t0 : W'.cell? ⟨w.heap.size + 1 + 1 + 1, 0, none⟩ = some (.map none) := hr.b.r3.cell 0
          have k0 := frozen_of_row W' (w.heap.size + 1 + 1 + 1) 0 _ _ hr.b.r3
          have t1 : W'.cell? ⟨w.heap.size + 1 + 1 + 1, 1, none⟩ = some (.int .i64 0) := hr.b.r3.cell 1
          have k1 := frozen_of_row W' (w.heap.size + 1 + 1 + 1) 1 _ _ hr.b.r3
          have t2 : W'.cell? ⟨w.heap.size + 1 + 1 + 1, 2, none⟩ = some (.int .i64 0) := hr.b.r3.cell 2
          have k2 := frozen_of_row W' (w.heap.size + 1 + 1 + 1) 2 _ _ hr.b.r3
          have t3 : W'.cell? ⟨w.heap.size + 1 + 1 + 1, 3, none⟩ = some (.int .i64 0) := hr.b.r3.cell 3
          have k3 := frozen_of_row W' (w.heap.size + 1 + 1 + 1) 3 _ _ hr.b.r3
          have t4 : W'.cell? ⟨w.heap.size + 1 + 1 + 1, 4, none⟩ = some (.int .i64 0) := hr.b.r3.cell 4
          have k4 := frozen_of_row W' (w.heap.size + 1 + 1 + 1) 4 _ _ hr.b.r3
          have t5 : W'.cell? ⟨w.heap.size + 1 + 1 + 1, 5, none⟩ = some (.bool false) := hr.b.r3.cell 5
          have k5 := frozen_of_row W' (w.heap.size + 1 + 1 + 1) 5 _ _ hr.b.r3
          clear hr hv hD hd
          dsimp only
          simp only [Exit.inBlock]
          go_wp2_with fail
          rw [Exit.noGoto_ret]
          have hr3 := ((((((HX.out.b.r3.set 0 (.map (some (w.heap.size + 1 + 1 + 1 + 1)))).set 1 (.int .i64 g0)).set 2 (.int .i64 g1)).set 3 (.int .i64 g2)).set 4 (.int .i64 g3)).set 5 (.bool true))
          have hN := HX.out.b.hS
          have hSR := HX.out.hR
          have hsz3 := HX.out.b.r3.lt
          have G6 : W'.grownBy ((((((W'.setCell ⟨w.heap.size + 1 + 1 + 1, 0, none⟩ (.map (some (w.heap.size + 1 + 1 + 1 + 1)))).setCell ⟨w.heap.size + 1 + 1 + 1, 1, none⟩ (.int .i64 g0)).setCell ⟨w.heap.size + 1 + 1 + 1, 2, none⟩ (.int .i64 g1)).setCell ⟨w.heap.size + 1 + 1 + 1, 3, none⟩ (.int .i64 g2)).setCell ⟨w.heap.size + 1 + 1 + 1, 4, none⟩ (.int .i64 g3)).setCell ⟨w.heap.size + 1 + 1 + 1, 5, none⟩ (.bool true)) (some (w.heap.size + 1 + 1 + 1)) := six_set W' _ _ _ _ _ _ _
          have hmk : Marks w1.heap.size ({ target := .collected D, args := #[] } :: ds) W' := marks_next HM.out HL.out.rR (fun D' _ h => pop_mark HL.out.rQ h) (by rw [size_al, HZ3.out]; omega) HX.out.mrk HD.out HDF.out
          generalize ((((((W'.setCell ⟨w.heap.size + 1 + 1 + 1, 0, none⟩ (.map (some (w.heap.size + 1 + 1 + 1 + 1)))).setCell ⟨w.heap.size + 1 + 1 + 1, 1, none⟩ (.int .i64 g0)).setCell ⟨w.heap.size + 1 + 1 + 1, 2, none⟩ (.int .i64 g1)).setCell ⟨w.heap.size + 1 + 1 + 1, 3, none⟩ (.int .i64 g2)).setCell ⟨w.heap.size + 1 + 1 + 1, 4, none⟩ (.int .i64 g3)).setCell ⟨w.heap.size + 1 + 1 + 1, 5, none⟩ (.bool true)) = W6 at *
          refine leaves_marks (B := w1.heap.size) (fun X => Row X (w.heap.size + 1 + 1 + 1) 89 [.map (some (w.heap.size + 1 + 1 + 1 + 1)), .int .i64 g0, .int .i64 g1, .int .i64 g2, .int .i64 g3, .bool true] ∧ SeenAt X (w.heap.size + 1 + 1 + 1 + 1) t.1.length (seenV t.1) ∧ Below w.heap.size w X)
            ((lasts_row _ _ _ _).and ((lasts_seen _ _ _ _ (by omega)).and (lasts_below _ _ _ (by omega) (Nat.le_refl _)))) ?cleave1 ({ target := .collected D, args := #[] } :: ds) _ (hmk.keeps (fun D' hD' hd' => by rw [G6.block D' (Array.getElem?_eq_some_iff.1 hd').1 (fun e => by have := Option.some.inj e; omega)]; exact hd')) ⟨hr3, HX.out.sn.kept G6 (fun e => by have := Option.some.inj e; omega), HX.out.bw.grown G6 HX.out.bw.size (fun k e => by have := Option.some.inj e; omega)⟩
          rintro X ⟨x3, xs, xb⟩
          have e0 : X.cell? ⟨w.heap.size + 1 + 1 + 1, 0, none⟩ = some (.map (some (w.heap.size + 1 + 1 + 1 + 1))) := x3.cell 0
          have e1 : X.cell? ⟨w.heap.size + 1 + 1 + 1, 1, none⟩ = some (.int .i64 g0) := x3.cell 1
          have e2 : X.cell? ⟨w.heap.size + 1 + 1 + 1, 2, none⟩ = some (.int .i64 g1) := x3.cell 2
          have e3 : X.cell? ⟨w.heap.size + 1 + 1 + 1, 3, none⟩ = some (.int .i64 g2) := x3.cell 3
          have e4 : X.cell? ⟨w.heap.size + 1 + 1 + 1, 4, none⟩ = some (.int .i64 g3) := x3.cell 4
          have e5 : X.cell? ⟨w.heap.size + 1 + 1 + 1, 5, none⟩ = some (.bool true) := x3.cell 5
          refine ⟨.agg #[.map (some (w.heap.size + 1 + 1 + 1 + 1)), .int .i64 g0, .int .i64 g1, .int .i64 g2, .int .i64 g3, .bool true], ?_, rfl, xs, xb⟩
          simp [results, Try.results57, go_sem, e0, e1, e2, e3, e4, e5]
      · have hcn : ¬ cap = 1 := by omega
        obtain ⟨hL3, r3, z3⟩ := lp_pop hl (off + 4) (cap - 1) (.inl ⟨hcc, rfl, rfl⟩)
        have cS3 : ((W.alloc (.cells #[.int .i64 q0, .int .i64 q1, .int .i64 q2, .int .i64 q3] 77)).setCell ⟨w1.heap.size + 1 + 1, 0, none⟩ (.slice (some ⟨g, off + 4, none⟩) qs.length (cap - 1))).cell? ⟨S, 0, none⟩ = some (.map (some (w.heap.size + 1 + 1 + 1 + 1))) := hL3.b.rS.cell 0
        have m0 : ((W.alloc (.cells #[.int .i64 q0, .int .i64 q1, .int .i64 q2, .int .i64 q3] 77)).setCell ⟨w1.heap.size + 1 + 1, 0, none⟩ (.slice (some ⟨g, off + 4, none⟩) qs.length (cap - 1))).cell? ⟨W.heap.size, 0, none⟩ = some (.int .i64 q0) := r3.cell 0
        have m1 : ((W.alloc (.cells #[.int .i64 q0, .int .i64 q1, .int .i64 q2, .int .i64 q3] 77)).setCell ⟨w1.heap.size + 1 + 1, 0, none⟩ (.slice (some ⟨g, off + 4, none⟩) qs.length (cap - 1))).cell? ⟨W.heap.size, 1, none⟩ = some (.int .i64 q1) := r3.cell 1
        have m2 : ((W.alloc (.cells #[.int .i64 q0, .int .i64 q1, .int .i64 q2, .int .i64 q3] 77)).setCell ⟨w1.heap.size + 1 + 1, 0, none⟩ (.slice (some ⟨g, off + 4, none⟩) qs.length (cap - 1))).cell? ⟨W.heap.size, 2, none⟩ = some (.int .i64 q2) := r3.cell 2
        have m3 : ((W.alloc (.cells #[.int .i64 q0, .int .i64 q1, .int .i64 q2, .int .i64 q3] 77)).setCell ⟨w1.heap.size + 1 + 1, 0, none⟩ (.slice (some ⟨g, off + 4, none⟩) qs.length (cap - 1))).cell? ⟨W.heap.size, 3, none⟩ = some (.int .i64 q3) := r3.cell 3
        obtain ⟨x0, x1, x2, x3, x4, x5, hlk⟩ := look_here hL3.sn fq (fun p hp => (hL3.okA p hp).2.1)
        have HLK := Lib.hid hlk
        have HL3 := Lib.hid hL3
        have HZ3 := Lib.hid z3
        have H7 := Lib.hid r3
        have hcnt : 1 ≤ cntA A [q0, q1, q2, q3] ∧ cntA A [q0, q1, q2, q3] ≤ 1000001 := by
          unfold cntA
          cases hlA : lookA A [q0, q1, q2, q3] with
          | none => simp
          | some c => have := (hl.okA _ (lookA_mem _ _ _ hlA)).2; dsimp only at this; simp only [Option.map_some, Option.getD_some]; omega
        have HFQ := Lib.hid (hl.okQ [q0, q1, q2, q3] List.mem_cons_self)
        have HCK := Lib.hid (show cntA A [q0, q1, q2, q3] + k ≤ 1000001 by
          have hk1 := hl.len
          unfold cntA
          cases hlA : lookA A [q0, q1, q2, q3] with
          | none => simp only [Option.map_none, Option.getD_none]; omega
          | some c => have := (hl.okA _ (lookA_mem _ _ _ hlA)).2; dsimp only at this; simp only [Option.map_some, Option.getD_some]; omega)
        generalize hcq : cntA A [q0, q1, q2, q3] = cn at *
        have HCN := Lib.hid hcq
        obtain ⟨hcn1, hcn2⟩ := hcnt
        clear hl hm hbf htk hh hsz hmx hc hb0 h4 hq4 hL3 r3 z3 hlk fq hcq
        go_wp2_with fail
        rw [HLK.out, Result.andThen_ok]
        have hwr : IntKind.i64.wrap (cn - 1 + 1) = cn := by rw [show cn - 1 + 1 = cn by omega]; exact i64_of cn (by omega) (by omega)
        go_wp2_with fail
        rw [field94, Result.andThen_ok]
        go_wp2_with fail
        refine search_range f0 f1 f2 f3 q0 q1 q2 q3 cn gl G caps n p0 p1 p2 p3 ls m hn HLS.out HM0.out bl bj S w1.heap.size W.heap.size w _ _ _ _ _ _ _ _ _ _ _ _ _ _ _ _ _ _ _ _ _ _ _ _ _ _ _ _ _ _ _ _ _ _ _ _ _ _ _ _ _ _ _ _ _ _ _ _ _ _ _ _ _ _ _ _ _ _ _ _ ds _ _ A qs (.slice (some ⟨g, off + 4, none⟩) qs.length (cap - 1)) ?crl2 ?crj2 ?chd2 ?chs2 ?cln2 ?clq2 HE.out HG.out HRL.out.lt HRJ.out.lt HFQ.out ?cdone2 ?cstop2 _ (by kernel_rfl)
        case crl2 => exact pop_row HRL.out HL3.out _
        case crj2 => exact pop_row HRJ.out HL3.out _
        case chd2 => exact rd_start HL3.out H7.out HZ3.out (by have := HL.out.rQ.lt; omega) (fun g2 he => by have := HHG.out; simp only [Value.ownBlock, Option.map_some, Option.some.injEq] at he; omega) cn
        case chs2 => rw [size_al, HZ3.out]; omega
        case cln2 => have := HL3.out.len; have := HK0.out; omega
        case clq2 => exact HL3.out.len.2
        case cdone2 =>
          intro D t v' W' hD hv hr hd
          have HV := Lib.hid hv
          have HR := Lib.hid hr
          have HD := Lib.hid hD
          have HDF := Lib.hid hd
          clear hv hr hD hd
          dsimp only
          refine ⟨k - 1, by have := HK0.out; omega, _, _, _, _, _, _, _, _, _, _, _, _, _, _, _, _, _, _, _, _, _, _, _, _, _, _, _, _, _, _, _, _, _, _, _, _, _, _, _, _, _, _, _, _, _, _, _, _, _, _, _, _, _, _, _, _, _, _, _, _, _, _, _, _, t.1, t.2, v', rfl, ?_, ?_, bfs_next HB.out HCN.out HV.out⟩
          · exact marks_next HM.out HL.out.rR (fun D' _ h => pop_mark HL.out.rQ h) (by rw [size_al, HZ3.out]; omega) HR.out.mrk HD.out HDF.out
          · exact lp_next HL3.out HK0.out hn HLS.out HM0.out HFQ.out ⟨hcn1, HCK.out⟩ HV.out HR.out
        case cstop2 =>
          intro D t g0 g1 g2 g3 W' hD hv hr hd
          have HV := Lib.hid hv
          have HX := Lib.hid hr
          have HD := Lib.hid hD
          have HDF := Lib.hid hd
          have hres : res = (t.1, some [g0, g1, g2, g3]) := bfs_stop HB.out HCN.out HV.out
          subst hres
          have p0 : W'.cell? ⟨w1.heap.size, 0, none⟩ = some (.map (some (w.heap.size + 1 + 1 + 1 + 1))) := hr.rR.cell 0
          have p1 : W'.cell? ⟨w1.heap.size, 1, none⟩ = some (.int .i64 g0) := hr.rR.cell 1
          have p2 : W'.cell? ⟨w1.heap.size, 2, none⟩ = some (.int .i64 g1) := hr.rR.cell 2
          have p3 : W'.cell? ⟨w1.heap.size, 3, none⟩ = some (.int .i64 g2) := hr.rR.cell 3
          have p4 : W'.cell? ⟨w1.heap.size, 4, none⟩ = some (.int .i64 g3) := hr.rR.cell 4
          have p5 : W'.cell? ⟨w1.heap.size, 5, none⟩ = some (.bool true) := hr.rR.cell 5
          have t0 : W'.cell? ⟨w.heap.size + 1 + 1 + 1, 0, none⟩ = some (.map none) := hr.b.r3.cell 0
          have k0 := frozen_of_row W' (w.heap.size + 1 + 1 + 1) 0 _ _ hr.b.r3
          have t1 : W'.cell? ⟨w.heap.size + 1 + 1 + 1, 1, none⟩ = some (.int .i64 0) := hr.b.r3.cell 1
          have k1 := frozen_of_row W' (w.heap.size + 1 + 1 + 1) 1 _ _ hr.b.r3
          have t2 : W'.cell? ⟨w.heap.size + 1 + 1 + 1, 2, none⟩ = some (.int .i64 0) := hr.b.r3.cell 2
          have k2 := frozen_of_row W' (w.heap.size + 1 + 1 + 1) 2 _ _ hr.b.r3
          have t3 : W'.cell? ⟨w.heap.size + 1 + 1 + 1, 3, none⟩ = some (.int .i64 0) := hr.b.r3.cell 3
          have k3 := frozen_of_row W' (w.heap.size + 1 + 1 + 1) 3 _ _ hr.b.r3
          have t4 : W'.cell? ⟨w.heap.size + 1 + 1 + 1, 4, none⟩ = some (.int .i64 0) := hr.b.r3.cell 4
          have k4 := frozen_of_row W' (w.heap.size + 1 + 1 + 1) 4 _ _ hr.b.r3
          have t5 : W'.cell? ⟨w.heap.size + 1 + 1 + 1, 5, none⟩ = some (.bool false) := hr.b.r3.cell 5
          have k5 := frozen_of_row W' (w.heap.size + 1 + 1 + 1) 5 _ _ hr.b.r3
          clear hr hv hD hd
          dsimp only
          simp only [Exit.inBlock]
          go_wp2_with fail
          rw [Exit.noGoto_ret]
          have hr3 := ((((((HX.out.b.r3.set 0 (.map (some (w.heap.size + 1 + 1 + 1 + 1)))).set 1 (.int .i64 g0)).set 2 (.int .i64 g1)).set 3 (.int .i64 g2)).set 4 (.int .i64 g3)).set 5 (.bool true))
          have hN := HX.out.b.hS
          have hSR := HX.out.hR
          have hsz3 := HX.out.b.r3.lt
          have G6 : W'.grownBy ((((((W'.setCell ⟨w.heap.size + 1 + 1 + 1, 0, none⟩ (.map (some (w.heap.size + 1 + 1 + 1 + 1)))).setCell ⟨w.heap.size + 1 + 1 + 1, 1, none⟩ (.int .i64 g0)).setCell ⟨w.heap.size + 1 + 1 + 1, 2, none⟩ (.int .i64 g1)).setCell ⟨w.heap.size + 1 + 1 + 1, 3, none⟩ (.int .i64 g2)).setCell ⟨w.heap.size + 1 + 1 + 1, 4, none⟩ (.int .i64 g3)).setCell ⟨w.heap.size + 1 + 1 + 1, 5, none⟩ (.bool true)) (some (w.heap.size + 1 + 1 + 1)) := six_set W' _ _ _ _ _ _ _
          have hmk : Marks w1.heap.size ({ target := .collected D, args := #[] } :: ds) W' := marks_next HM.out HL.out.rR (fun D' _ h => pop_mark HL.out.rQ h) (by rw [size_al, HZ3.out]; omega) HX.out.mrk HD.out HDF.out
          generalize ((((((W'.setCell ⟨w.heap.size + 1 + 1 + 1, 0, none⟩ (.map (some (w.heap.size + 1 + 1 + 1 + 1)))).setCell ⟨w.heap.size + 1 + 1 + 1, 1, none⟩ (.int .i64 g0)).setCell ⟨w.heap.size + 1 + 1 + 1, 2, none⟩ (.int .i64 g1)).setCell ⟨w.heap.size + 1 + 1 + 1, 3, none⟩ (.int .i64 g2)).setCell ⟨w.heap.size + 1 + 1 + 1, 4, none⟩ (.int .i64 g3)).setCell ⟨w.heap.size + 1 + 1 + 1, 5, none⟩ (.bool true)) = W6 at *
          refine leaves_marks (B := w1.heap.size) (fun X => Row X (w.heap.size + 1 + 1 + 1) 89 [.map (some (w.heap.size + 1 + 1 + 1 + 1)), .int .i64 g0, .int .i64 g1, .int .i64 g2, .int .i64 g3, .bool true] ∧ SeenAt X (w.heap.size + 1 + 1 + 1 + 1) t.1.length (seenV t.1) ∧ Below w.heap.size w X)
            ((lasts_row _ _ _ _).and ((lasts_seen _ _ _ _ (by omega)).and (lasts_below _ _ _ (by omega) (Nat.le_refl _)))) ?cleave2 ({ target := .collected D, args := #[] } :: ds) _ (hmk.keeps (fun D' hD' hd' => by rw [G6.block D' (Array.getElem?_eq_some_iff.1 hd').1 (fun e => by have := Option.some.inj e; omega)]; exact hd')) ⟨hr3, HX.out.sn.kept G6 (fun e => by have := Option.some.inj e; omega), HX.out.bw.grown G6 HX.out.bw.size (fun k e => by have := Option.some.inj e; omega)⟩
          rintro X ⟨x3, xs, xb⟩
          have e0 : X.cell? ⟨w.heap.size + 1 + 1 + 1, 0, none⟩ = some (.map (some (w.heap.size + 1 + 1 + 1 + 1))) := x3.cell 0
          have e1 : X.cell? ⟨w.heap.size + 1 + 1 + 1, 1, none⟩ = some (.int .i64 g0) := x3.cell 1
          have e2 : X.cell? ⟨w.heap.size + 1 + 1 + 1, 2, none⟩ = some (.int .i64 g1) := x3.cell 2
          have e3 : X.cell? ⟨w.heap.size + 1 + 1 + 1, 3, none⟩ = some (.int .i64 g2) := x3.cell 3
          have e4 : X.cell? ⟨w.heap.size + 1 + 1 + 1, 4, none⟩ = some (.int .i64 g3) := x3.cell 4
          have e5 : X.cell? ⟨w.heap.size + 1 + 1 + 1, 5, none⟩ = some (.bool true) := x3.cell 5
          refine ⟨.agg #[.map (some (w.heap.size + 1 + 1 + 1 + 1)), .int .i64 g0, .int .i64 g1, .int .i64 g2, .int .i64 g3, .bool true], ?_, rfl, xs, xb⟩
          simp [results, Try.results57, go_sem, e0, e1, e2, e3, e4, e5]
end Go.Proofs.Ytlamppplnojpbaa
