import Derived.Test.YtlemipnplgbckaaBM
import Derived.Laws.AppendOwn
import Derived.ChangeKeysEq
import Derived.Maps.RangeWalk
import Derived.Maps.OwnIn
import Derived.Maps.AppendAt
import Derived.RangeFuncNested
import Derived.RangeFuncBound
import Derived.RangeFuncCalls
import Derived.RangeFuncLeaves
import Derived.Shelf.Abstract
import Derived.Shelf.RegionOpen
import Derived.WalkKit
import Derived.WalkMore
import Derived.OwnWalkIn
import Derived.TacticsInMore
import Derived.LoopNIn
import Derived.LoopIn
import Derived.WalkSpells
import Derived.WalkLawsBesides
import Derived.BigQuiet
import Derived.Deep.QuietTactic
import Derived.Lib.Hide
import Derived.Deep.RegionHeld3
import Derived.StillTailTactics
import Derived.Deep.LoopGhost
import Derived.Maps.OwnSet
import Derived.Lib.IndexAny
import Derived.Sort.QuietThIn
import Derived.Sort.QuietTacIn
import Derived.Sort.BigQuietIn
import Derived.Laws.OwnMore
import Derived.DeepKeys4
import Derived.Maps.Views
import Derived.Maps.OwnOps
import Derived.Laws.OwnMore
import Derived.Deep.DeepCutAuto
import Derived.ChangeKeysEq
namespace Go.Proofs.Ytlemipnplgbckaa
open Go.RowKit Go.Shelf
attribute [local go_sem] Oper.semAt_some
theorem findIdx_split {α : Type} {p : α → Bool} {cs : List α} {k : Nat} (h : cs.findIdx? p = some k) : k < cs.length ∧ (cs.take (k + 1)).filter (fun c => !p c) = cs.take k := by
  rw [List.findIdx?_eq_some_iff_getElem] at h
  obtain ⟨hk, h1, h2⟩ := h
  refine ⟨hk, ?_⟩
  rw [List.take_succ_eq_append_getElem hk, List.filter_append]
  have e1 : (cs.take k).filter (fun c => !p c) = cs.take k := by
    rw [List.filter_eq_self]
    intro x hx
    obtain ⟨j, hj, rfl⟩ := List.getElem_of_mem hx
    rw [List.length_take] at hj
    rw [List.getElem_take]
    simpa using h2 j (by omega)
  rw [e1]
  simp [h1]
/-- the list in the middle of the deleting -/
structure DelS (gl : Cir → Bool) (cs L : List Cir) (i j : Nat) : Prop where
  len : L.length = cs.length
  le : i ≤ j
  jn : j ≤ cs.length
  front : L.take i = (cs.take j).filter fun c => !gl c
  back : L.drop j = cs.drop j
theorem DelS.at_ {gl : Cir → Bool} {cs L : List Cir} {i j : Nat} (h : DelS gl cs L i j) (hj : j < cs.length) : L[j]'(by have := h.len; omega) = cs[j] := by
  have h1 : (L.drop j)[0]? = (cs.drop j)[0]? := by rw [h.back]
  rw [List.getElem?_drop, List.getElem?_drop, Nat.add_zero, List.getElem?_eq_getElem (by have := h.len; omega), List.getElem?_eq_getElem hj] at h1
  exact Option.some.inj h1
theorem DelS.skip {gl : Cir → Bool} {cs L : List Cir} {i j : Nat} (h : DelS gl cs L i j) (hj : j < cs.length) (hg : gl cs[j] = true) : DelS gl cs L i (j + 1) := by
  refine ⟨h.len, by have := h.le; omega, hj, ?_, ?_⟩
  · rw [h.front, List.take_succ_eq_append_getElem hj, List.filter_append]; simp [hg]
  · rw [← List.drop_drop, h.back, List.drop_drop]
theorem DelS.keep {gl : Cir → Bool} {cs L : List Cir} {i j : Nat} (h : DelS gl cs L i j) (hj : j < cs.length) (hg : gl cs[j] = false) : DelS gl cs (L.set i cs[j]) (i + 1) (j + 1) := by
  have hi : i < L.length := by have := h.le; have := h.len; omega
  refine ⟨by rw [List.length_set]; exact h.len, by have := h.le; omega, hj, ?_, ?_⟩
  · rw [List.take_succ_eq_append_getElem (by rw [List.length_set]; exact hi), List.take_set_of_le (Nat.le_refl _), h.front, List.getElem_set_self, List.take_succ_eq_append_getElem hj, List.filter_append]
    simp [hg]
  · rw [List.drop_set_of_lt (by have := h.le; omega), ← List.drop_drop, h.back, List.drop_drop]
set_option maxRecDepth 100000 in
set_option maxHeartbeats 1000000 in
theorem deleteFunc_any (cs : List Cir) (g cap n₀ : Nat) (G : FuncId) (caps : Array Value) (gl : Cir → Bool) (w : World) (hv : OwnC w n₀ g cap cs) (hn : n₀ ≤ w.heap.size) (hl : cs.length ≤ 1000000)
    (hen : ∀ args W, (callFunc G args).run Try.prog W = .ok (.enter G args) W)
    (hg : ∀ W c, Below n₀ w W → c ∈ cs → Calls Try.prog G (#[.agg #[.int .i64 c.X, .int .i64 c.Y, .int .i64 c.D, .int .i64 c.R]] ++ caps) W fun e w' => e = .returned (.bool (gl c)) ∧ Below W.heap.size W w') :
    Calls Try.prog 86 #[.slice (some ⟨g, 0, none⟩) cs.length cap, .func (.func G) #[] caps] w fun e w' => e = .returned (.slice (some ⟨g, 0, none⟩) (cs.filter fun c => !gl c).length cap) ∧ OwnC w' n₀ g cap (cs.filter fun c => !gl c) ∧ Below n₀ w w' := by
  have HIX := Lib.hid (indexCir_any cs _ G caps gl w hv.slc hl hen (fun W c hb hm => hg W c (hb.mono hn) hm))
  have HO := Lib.hid hv
  have HG := Lib.hid hg
  have HN := Lib.hid hn
  obtain ⟨_, _, hng, hcc, _⟩ := hv.heap
  clear hv hg hn
  cases hf : cs.findIdx? gl with
  | none =>
    rw [hf] at HIX
    dsimp only at HIX
    have hfl : cs.filter (fun c => !gl c) = cs := by
      rw [List.filter_eq_self]
      rw [List.findIdx?_eq_none_iff] at hf
      intro x hx; simpa using hf x hx
    rw [hfl]
    clear hf hfl
    go_enter Try.func86, Try.ntmps86
    go_wp2_with fail
    refine HIX.out.mono ?_
    rintro e w1 ⟨rfl, hb1⟩
    have HB1 := Lib.hid (show Below n₀ w w1 from hb1.mono HN.out)
    have HO1 := Lib.hid (show OwnC w1 n₀ g cap cs from own_grow HO.out hb1)
    clear hb1 HIX
    go_wp2_with fail
    go_ret
    exact ⟨rfl, HO1.out, HB1.out⟩
  | some k0 =>
    rw [hf] at HIX
    dsimp only at HIX
    obtain ⟨hk0, hsp⟩ := findIdx_split hf
    have HS0 := Lib.hid (show DelS gl cs cs k0 (k0 + 1) from ⟨rfl, by omega, hk0, hsp.symm, rfl⟩)
    have hne : ((k0 : Int) == -1) = false := by simp <;> omega
    have hne2 : decide ((k0 : Int) = -1) = false := decide_eq_false (by omega)
    have kw0 : IntKind.i64.wrap ((k0 : Int) + 1) = ((k0 + 1 : Nat) : Int) := by rw [i64_of _ (by omega) (by omega)]; omega
    clear hf hsp
    go_enter Try.func86, Try.ntmps86
    go_wp2_with fail
    refine HIX.out.mono ?_
    rintro e w1 ⟨rfl, hb1⟩
    have HB1 := Lib.hid (show Below n₀ w w1 from hb1.mono HN.out)
    have HO1 := Lib.hid (show OwnC w1 n₀ g cap cs from own_grow HO.out hb1)
    clear hb1 HIX
    go_wp2_with fail
    go_loopw [5, 6] (fun iv jv wr => ∃ (i j : Nat) (L : List Cir), iv = .int .i64 (i : Int) ∧ jv = .int .i64 (j : Int) ∧ j ≤ cs.length ∧ i < j ∧ Hid (DelS gl cs L i j ∧ OwnC wr n₀ g cap L ∧ Below n₀ w wr)) (fun _ jv _ => (cs.length - intOf jv).toNat)
    case atStart => exact ⟨k0, k0 + 1, cs, rfl, by simp, by omega, by omega, Lib.hid ⟨HS0.out, HO1.out, HB1.out⟩⟩
    case round =>
      clear HS0 HO1 HB1
      obtain ⟨i, j, L, rfl, rfl, hj, hij, HR⟩ := hrel
      have kw : IntKind.i64.wrap ((j : Int) + 1) = ((j + 1 : Nat) : Int) := by rw [i64_of _ (by omega) (by omega)]; omega
      have kwi : IntKind.i64.wrap ((i : Int) + 1) = ((i + 1 : Nat) : Int) := by rw [i64_of _ (by omega) (by omega)]; omega
      by_cases hlt : j < cs.length
      · have hd : decide ((j : Int) < (cs.length : Int)) = true := decide_eq_true (by omega)
        have hdn : decide (j < cs.length) = true := decide_eq_true hlt
        have hLl := HR.out.1.len
        have hat := HR.out.1.at_ hlt
        have hC := HR.out.2.1.at_
        have k0' := hC.x j (by omega)
        have k1 := hC.y j (by omega)
        have k2 := hC.d j (by omega)
        have k3 := hC.r j (by omega)
        rw [hat, Nat.zero_add] at k0' k1 k2 k3
        have HGJ := Lib.hid (fun (W : World) (hb : Below wr.heap.size wr W) => HG.out W cs[j] (Below.trans HR.out.2.2 (hb.mono (Nat.le_trans HN.out HR.out.2.2.size))) (List.getElem_mem hlt))
        have HSK := Lib.hid (HR.out.1.skip hlt)
        have HKP := Lib.hid (HR.out.1.keep hlt)
        clear hat hC
        generalize cs[j] = c at *
        obtain ⟨E, hE⟩ : ∃ E, gl c = E := ⟨_, rfl⟩
        rw [hE] at HGJ HSK HKP
        clear hE hLl
        have rb := Row.new wr 30 [.int .i64 c.X, .int .i64 c.Y, .int .i64 c.D, .int .i64 c.R]
        have bb := Below.al (Below.refl wr.heap.size wr) (Nat.le_refl _) (.cells #[.int .i64 c.X, .int .i64 c.Y, .int .i64 c.D, .int .i64 c.R] 30)
        have RB := Lib.hid rb
        have BB := Lib.hid bb
        clear rb bb
        go_wp2_with fail
        refine (HGJ.out _ BB.out).mono ?_
        rintro e w2 ⟨rfl, hb2⟩
        have HB2 := Lib.hid (Below.andThen BB.out hb2 (Nat.le_refl _))
        have HRB := Lib.hid (RB.out.below hb2 RB.out.lt)
        have HO2 := Lib.hid (show OwnC w2 n₀ g cap L from own_grow HR.out.2.1 HB2.out)
        have HBW := Lib.hid (show Below n₀ w w2 from Below.trans HR.out.2.2 (HB2.out.mono (Nat.le_trans HN.out HR.out.2.2.size)))
        clear hb2 HGJ k0' k1 k2 k3
        cases E with
        | true =>
          have HSK2 := Lib.hid (HSK.out rfl)
          go_wp2_with fail
          exact ⟨⟨i, j + 1, L, rfl, by simp, by omega, by omega, Lib.hid ⟨HSK2.out, HO2.out, HBW.out⟩⟩, by simp [intOf]; omega⟩
        | false =>
          have HKP2 := Lib.hid (HKP.out rfl)
          have hic : i < cs.length := by omega
          have hiL : i < L.length := by have := HR.out.1.len; omega
          have x0 := HRB.out.cell 0
          have x1 := HRB.out.cell 1
          have x2 := HRB.out.cell 2
          have x3 := HRB.out.cell 3
          simp only [List.getElem?_cons_zero, List.getElem?_cons_succ] at x0 x1 x2 x3
          have y0 := HO2.out.at_.x i hiL
          have y1 := HO2.out.at_.y i hiL
          have y2 := HO2.out.at_.d i hiL
          have y3 := HO2.out.at_.r i hiL
          rw [Nat.zero_add] at y0 y1 y2 y3
          have f0 := HO2.out.frozenAt (i * 4)
          have f1 := HO2.out.frozenAt (i * 4 + 1)
          have f2 := HO2.out.frozenAt (i * 4 + 2)
          have f3 := HO2.out.frozenAt (i * 4 + 3)
          have HSET := Lib.hid (HO2.out.set i c)
          go_wp2_with fail
          refine ⟨⟨i + 1, j + 1, _, by simp, by simp, by omega, by omega, Lib.hid ⟨HKP2.out, HSET.out, ?_⟩⟩, by simp [intOf]; omega⟩
          exact (((HBW.out.setCell (p := ⟨g, i * 4, none⟩) hng _).setCell (p := ⟨g, i * 4 + 1, none⟩) hng _).setCell (p := ⟨g, i * 4 + 2, none⟩) hng _).setCell (p := ⟨g, i * 4 + 3, none⟩) hng _
      · have hd : decide ((j : Int) < (cs.length : Int)) = false := decide_eq_false (by omega)
        have hdn : decide (j < cs.length) = false := decide_eq_false hlt
        obtain rfl : j = cs.length := by omega
        have hLl := HR.out.1.len
        have HFR := Lib.hid (show L.take i = cs.filter (fun c => !gl c) by have := HR.out.1.front; rwa [List.take_length] at this)
        have HLF := Lib.hid (show (cs.filter fun c => !gl c).length = i by rw [← HFR.out, List.length_take]; omega)
        have hic : i ≤ cap := by omega
        have hnc : ¬ cap = i := by omega
        have HLL := Lib.hid hLl
        clear hLl
        obtain ⟨W', hcl, hoW, hbW⟩ := clearC (cc := cap - i) HR.out.2.1 (show i < L.length by have := HLL.out; omega) 0
        rw [HLL.out] at hcl
        rw [HFR.out] at hoW
        have HOW := Lib.hid hoW
        have HBW := Lib.hid (Below.trans HR.out.2.2 hbW)
        clear hoW hbW
        have hi2 : i ≤ cs.length := by omega
        go_wp2_with fail
        exact bodyPost_ret (v := .slice (some ⟨g, 0, none⟩) i cap) (by simp [results, Try.results86, go_sem]) rfl ⟨by rw [HLF.out], HOW.out, HBW.out⟩
end Go.Proofs.Ytlemipnplgbckaa
