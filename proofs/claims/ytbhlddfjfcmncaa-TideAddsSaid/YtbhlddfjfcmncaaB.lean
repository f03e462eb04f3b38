import Derived.Test.YtbhlddfjfcmncaaA
import Derived.WalkKit
import Derived.WalkSpells
import Derived.WalkLawsBesides
import Derived.BigQuiet
import Derived.Deep.QuietTactic
import Derived.Lib.Hide
namespace Go.Proofs.Ytbhlddfjfcmncaa
open Go.RowKit
def encB (c : UInt8) : Value := .int .u8 (c.toNat : Int)

/-- block g is a row of cells of the element type E -/
def Row (w : World) (g : Nat) (E : TypeId) (vs : List Value) : Prop := w.heap[g]? = some (.cells vs.toArray E (0, 0))

theorem Row.cell {w : World} {g : Nat} {E : TypeId} {vs : List Value} (h : Row w g E vs) (i : Nat) : w.cell? ⟨g, i, none⟩ = vs[i]? := by
  rw [cell_of_row w g i _ _ _ h]; simp

theorem Row.frozen {w : World} {g : Nat} {E : TypeId} {vs : List Value} (h : Row w g E vs) (i : Nat) : w.frozen? ⟨g, i, none⟩ = false :=
  frozen_of_row w g i _ _ h

theorem Row.lt {w : World} {g : Nat} {E : TypeId} {vs : List Value} (h : Row w g E vs) : g < w.heap.size :=
  (Array.getElem?_eq_some_iff.1 h).1

theorem Row.below {B : Nat} {w w' : World} {g : Nat} {E : TypeId} {vs : List Value} (h : Row w g E vs) (hb : Below B w w') (hg : g < B) : Row w' g E vs := by
  unfold Row; rw [hb.block g hg]; exact h

theorem Row.set {w : World} {g : Nat} {E : TypeId} {vs : List Value} (h : Row w g E vs) (i : Nat) (v : Value) : Row (w.setCell ⟨g, i, none⟩ v) g E (vs.set i v) := by
  unfold Row
  have := heap_setCell_same w g i vs.toArray E v h
  rw [this]; simp

theorem Row.drewN {w : World} {g : Nat} {E : TypeId} {vs : List Value} (h : Row w g E vs) (n : Nat) : Row (w.drewN n) g E vs := h

theorem Row.new (w : World) (E : TypeId) (vs : List Value) : Row (w.alloc (.cells vs.toArray E)) w.heap.size E vs :=
  heap_alloc_new w _

theorem infoB : (Try.prog.info? 5).map (fun i => (i.zero, i.size, i.bytes)) = some (some (.int .u8 0), 1, 1) := by kernel_rfl
theorem infoBool : (Try.prog.info? 4).map (fun i => (i.zero, i.size, i.bytes)) = some (some (.bool false), 1, 1) := by kernel_rfl

theorem madeCells_one (z : Value) (hz : z.cells = #[z]) (n : Nat) : madeCells z.cells n = (List.replicate n z).toArray := by
  rw [hz]; unfold madeCells
  apply Array.ext
  · simp
  · intro i h1 h2
    simp [Nat.mod_one]

theorem make_one (t e : TypeId) (z : Value) (b : Nat) (ht : Try.prog.underlying t = some (.slice e)) (hi : (Try.prog.info? e).map (fun i => (i.zero, i.size, i.bytes)) = some (some z, 1, b)) (hz : z.cells = #[z]) (n : Nat) (hn : n * b ≤ 1000000000) (hn2 : n ≤ 1000000000) (w : World) :
    (Instr.makeSlice t (.int .i64 (n : Int)) (.int .i64 (n : Int))).run Try.prog w = .ok (.slice (some ⟨w.heap.size, 0, none⟩) n n) (w.alloc (.cells (List.replicate n z).toArray e)) := by
  obtain ⟨i0, h0, h1, h2, h3⟩ := info_parts hi
  have hb : (i0.bytes : Int) * (n : Int) ≤ 281474976710656 := by
    rw [h3]; have : ((b * n : Nat) : Int) ≤ 281474976710656 := by rw [Nat.mul_comm]; omega
    rwa [Int.natCast_mul] at this
  have h := run_make (P := Try.prog) w t e i0 z ht h0 h1 .i64 .i64 n n (by omega) (Int.le_refl _) hb (by omega)
  rw [h]; simp [h2, madeCells_one z hz]

theorem make_bytes (n : Nat) (hn : n ≤ 1000000) (w : World) :
    (Instr.makeSlice 85 (.int .i64 (n : Int)) (.int .i64 (n : Int))).run Try.prog w = .ok (.slice (some ⟨w.heap.size, 0, none⟩) n n) (w.alloc (.cells (List.replicate n (.int .u8 0)).toArray 5)) :=
  make_one 85 5 (.int .u8 0) 1 Try.underlying85 infoB rfl n (by omega) (by omega) w

theorem make_bools (n : Nat) (hn : n ≤ 1000000) (w : World) :
    (Instr.makeSlice 78 (.int .i64 (n : Int)) (.int .i64 (n : Int))).run Try.prog w = .ok (.slice (some ⟨w.heap.size, 0, none⟩) n n) (w.alloc (.cells (List.replicate n (.bool false)).toArray 4)) :=
  make_one 78 4 (.bool false) 1 Try.underlying78 infoBool rfl n (by omega) (by omega) w

/-- a row filled from the left -/
def fillTo (n k : Nat) (z : Value) (g : Nat → Value) : List Value := (List.range n).map fun h => if h < k then g h else z
theorem fillTo_zero (n : Nat) (z : Value) (g : Nat → Value) : fillTo n 0 z g = List.replicate n z := by
  unfold fillTo; apply List.ext_getElem <;> simp
theorem fillTo_set (n k : Nat) (z : Value) (g : Nat → Value) : (fillTo n k z g).set k (g k) = fillTo n (k + 1) z g := by
  unfold fillTo
  apply List.ext_getElem
  · simp
  · intro i h1 h2
    rw [List.getElem_set]
    simp
    by_cases h : k = i
    · subst h; simp
    · rw [if_neg h]
      by_cases h3 : i < k
      · rw [if_pos h3, if_pos (by omega)]
      · rw [if_neg h3, if_neg (by omega)]
theorem fillTo_full (n : Nat) (z : Value) (g : Nat → Value) : fillTo n n z g = (List.range n).map g := by
  unfold fillTo; apply List.map_congr_left; intro a ha; rw [if_pos (by simpa using ha)]
theorem fillTo_get (n k i : Nat) (z : Value) (g : Nat → Value) (h : i < n) : ∃ v, (fillTo n k z g)[i]? = some v := by
  unfold fillTo; simp [h]

def toldL (f r : ByteArray) (n : Nat) : List UInt8 := (List.range n).map fun h => markU (hasB f r h)

theorem cellsB (f r : ByteArray) (w : World) : (w.alloc (.cells #[.string f, .string r] 23)).cell? ⟨w.heap.size, 0, none⟩ = some (.string f) ∧ (w.alloc (.cells #[.string f, .string r] 23)).cell? ⟨w.heap.size, 1, none⟩ = some (.string r) := by
  constructor <;> simp

set_option maxHeartbeats 400000 in
theorem told_any (f r : ByteArray) (n : Nat) (w : World) (hr1 : 1 ≤ r.size) (hb : n ≤ 1000000) :
    Calls Try.prog 70 #[.agg #[.string f, .string r], .int .i64 n] w fun e w' => ∃ g, e = .returned (.slice (some ⟨g, 0, none⟩) n n) ∧ w.heap.size ≤ g ∧ Row w' g 5 ((toldL f r n).map encB) ∧ Below w.heap.size w w' := by
  have hmk := make_bytes n hb
  go_enter Try.func70, Try.ntmps70
  go_wp2
  clear hmk
  go_loopw [6, 11] (fun x i wr => ∃ k : Nat, k ≤ n ∧ i = .int .i64 k ∧ Row wr (w.heap.size + 1) 5 (fillTo n k (.int .u8 0) fun h => encB (markU (hasB f r h))) ∧ Below (w.heap.size + 1) (w.alloc (.cells #[.string f, .string r] 23)) wr) (fun _ i _ => n - (intOf i).toNat)
  case atStart => 
    refine ⟨0, Nat.zero_le _, rfl, ?_, ?_⟩
    · rw [fillTo_zero]
      have := Row.new (w.alloc (.cells #[.string f, .string r] 23)) 5 (List.replicate n (.int .u8 0))
      simpa using this
    · exact (Below.refl _ _).alloc (by simp) _
  case round =>
    obtain ⟨k, hk, rfl, hrow, hbel⟩ := hrel
    have c0 : wr.cell? ⟨w.heap.size, 0, none⟩ = some (.string f) := (hbel.cell (p := ⟨w.heap.size, 0, none⟩) (by simp)).trans (cellsB f r w).1
    have c1 : wr.cell? ⟨w.heap.size, 1, none⟩ = some (.string r) := (hbel.cell (p := ⟨w.heap.size, 1, none⟩) (by simp)).trans (cellsB f r w).2
    by_cases hlt : k < n
    · have hsz := hrow.lt
      have Hrow := Lib.hid hrow
      have Hbel := Lib.hid hbel
      clear hrow hbel
      go_wp2_with fail
      refine (has_any f r k _ hr1 (by omega)).mono ?_
      rintro e w1 ⟨rfl, hb1⟩
      have hrow1 := Hrow.out.below hb1 (by omega)
      have hbel1 := Lib.hid (Hbel.out.trans (hb1.mono (by omega)))
      have hc1 := hrow1.cell k
      obtain ⟨v0, hv0⟩ := fillTo_get n k k (.int .u8 0) (fun h => encB (markU (hasB f r h))) hlt
      rw [hv0] at hc1
      have hf1 := hrow1.frozen k
      have hr2 := Lib.hid ((hrow1.set k (encB (markU (hasB f r k)))))
      rw [fillTo_set n k (.int .u8 0) (fun h => encB (markU (hasB f r h)))] at hr2
      have Hrow1 := Lib.hid hrow1
      clear hrow1 hb1 hv0 Hrow Hbel c0 c1
      go_wp2_with fail
      refine (mark_any _ _).mono ?_
      rintro e w2 ⟨rfl, rfl⟩
      go_wp2
      go_roundw
      case rel => exact ⟨k + 1, by omega, rfl, hr2.out, hbel1.out.setCell (p := ⟨w.heap.size + 1, k, none⟩) (by simp) _⟩
      case measure => simp [intOf]; omega
    · obtain rfl : k = n := by omega
      have Hrow := Lib.hid hrow
      have Hbel := Lib.hid hbel
      clear hrow hbel
      go_wp2
      go_ret
      refine ⟨w.heap.size + 1, rfl, by omega, ?_, ?_⟩
      · have h := Hrow.out
        rw [fillTo_full] at h
        unfold toldL; rw [List.map_map]; exact h
      · exact ((Below.refl _ _).alloc (Nat.le_refl _) _).trans (Hbel.out.mono (by omega))
/-- the bytes l lie from offset o on in block b -/
def AtB (w : World) (b o : Nat) (l : List UInt8) : Prop := ∀ i (h : i < l.length), w.cell? ⟨b, o + i, none⟩ = some (encB l[i])

theorem AtB.below {B : Nat} {w w' : World} {b o : Nat} {l : List UInt8} (h : AtB w b o l) (hb : Below B w w') (hg : b < B) : AtB w' b o l := fun i hi => by
  rw [hb.cell (p := ⟨b, o + i, none⟩) hg]; exact h i hi
theorem AtB.drewN {w : World} {b o : Nat} {l : List UInt8} (h : AtB w b o l) (n : Nat) : AtB (w.drewN n) b o l := h
theorem Row.atB {w : World} {g : Nat} {l : List UInt8} (h : Row w g 5 (l.map encB)) : AtB w g 0 l := fun i hi => by
  rw [h.cell]; simp [hi]
theorem AtB.drop {w : World} {b o : Nat} {l : List UInt8} (h : AtB w b o l) (k : Nat) : AtB w b (o + k) (l.drop k) := fun i hi => by
  have hi' : k + i < l.length := by simp at hi; omega
  have := h (k + i) hi'
  rw [Nat.add_assoc]; rw [this]; simp
theorem AtB.take {w : World} {b o : Nat} {l : List UInt8} (h : AtB w b o l) (k : Nat) : AtB w b o (l.take k) := fun i hi => by
  have hi' : i < l.length := by simp at hi; omega
  rw [h i hi']; simp

theorem enc_neq (a b : UInt8) : ((((a.toNat : Nat) : Int)) != ((b.toNat : Nat) : Int)) = (a != b) := by
  rw [Bool.eq_iff_iff, bne_iff_ne, bne_iff_ne, Ne, Ne, ← UInt8.toNat_inj]; omega

theorem take_eq_succ {l m : List UInt8} {k : Nat} (h1 : k < l.length) (h2 : k < m.length) (h : l.take k = m.take k) (he : l[k] = m[k]) : l.take (k + 1) = m.take (k + 1) := by
  rw [List.take_succ_eq_append_getElem h1, List.take_succ_eq_append_getElem h2, h, he]

set_option maxHeartbeats 400000 in
theorem equal_any (b1 o1 c1 b2 o2 c2 : Nat) (l m : List UInt8) (w : World) (n1 n2 : Nat) (hn1 : l.length = n1) (hn2 : m.length = n2) (hl : n1 ≤ 1000000) (hm : n2 ≤ 1000000) (h1 : AtB w b1 o1 l) (h2 : AtB w b2 o2 m) :
    Calls Try.prog 103 #[.slice (some ⟨b1, o1, none⟩) n1 c1, .slice (some ⟨b2, o2, none⟩) n2 c2] w fun e w' => e = .returned (.bool (decide (l = m))) ∧ ∃ n, w' = w.drewN n := by
  have H1 := Lib.hid h1
  have H2 := Lib.hid h2
  have N1 := Lib.hid hn1
  have N2 := Lib.hid hn2
  clear h1 h2 hn1 hn2
  by_cases hne : n1 = n2
  · subst hne
    have t1 : (((n1 : Nat) : Int) != (n1 : Int)) = false := by simp
    go_enter Try.func103, Try.ntmps103
    go_wp2
    clear t1
    go_loopw [5, 13] (fun x i wr => ∃ k : Nat, k ≤ n1 ∧ i = .int .i64 k ∧ Hid (l.take k = m.take k) ∧ ∃ n, wr = w.drewN n) (fun _ i _ => n1 - (intOf i).toNat)
    case atStart => exact ⟨0, Nat.zero_le _, rfl, rfl, 0, rfl⟩
    case round =>
      obtain ⟨k, hk, rfl, ht, q, rfl⟩ := hrel
      by_cases hlt : k < n1
      · have hk1 : k < l.length := by rw [N1.out]; exact hlt
        have hk2 : k < m.length := by rw [N2.out]; exact hlt
        have a1 := H1.out k hk1
        have a2 := H2.out k hk2
        have E := Lib.hid (enc_neq l[k] m[k])
        unfold encB at a1 a2
        have HT : ∀ (he : l[k] = m[k]), Hid (l.take (k + 1) = m.take (k + 1)) := fun he => Lib.hid (take_eq_succ hk1 hk2 ht.out he)
        have HF : ∀ (he : l[k] ≠ m[k]), Hid (l ≠ m) := fun he => Lib.hid (fun h => he (by subst h; rfl))
        have HT' := Lib.hid HT
        have HF' := Lib.hid HF
        clear HT HF
        generalize l[k] = x at *
        generalize m[k] = y at *
        cases hb : (((x.toNat : Nat) : Int) != ((y.toNat : Nat) : Int))
        · have he : Hid (x = y) := Lib.hid (by rw [E.out] at hb; simpa using hb)
          go_wp2
          go_quiet (fail)
          go_wp2
          go_roundw
          case rel => exact ⟨k + 1, by omega, rfl, HT'.out he.out, _, rfl⟩
          case measure => simp [intOf]; omega
        · have he : Hid (x ≠ y) := Lib.hid (by rw [E.out] at hb; simpa using hb)
          go_wp2
          go_quiet (fail)
          go_wp2
          go_ret
          exact ⟨ret_bool (by rw [decide_eq_false (HF'.out he.out).out]), _, drewN_drewN _ _ _⟩
      · obtain rfl : k = n1 := by omega
        have he : Hid (l = m) := Lib.hid (by
          have := ht.out; rw [List.take_of_length_le (by rw [N1.out]; omega), List.take_of_length_le (by rw [N2.out]; omega)] at this; exact this)
        go_wp2
        go_ret
        exact ⟨ret_bool (by rw [decide_eq_true he.out]), _, rfl⟩
  · have t1 : (((n1 : Nat) : Int) != (n2 : Int)) = true := by simp; omega
    go_enter Try.func103, Try.ntmps103
    go_wp2
    go_ret
    exact ⟨ret_bool (by rw [decide_eq_false]; intro h; apply hne; rw [← N1.out, ← N2.out, h]), 0, rfl⟩
theorem sizeB (w : World) : (Go.sizeOf 5).run Try.prog w = .ok 1 w := by kernel_rfl

theorem slice_from (b o n c k : Nat) (hk : k ≤ n) (hc : k < c) (w : World) :
    (Instr.slice 85 (.slice (some ⟨b, o, none⟩) n c) (some (.int .i64 (k : Int))) none none).run Try.prog w = .ok (.slice (some ⟨b, o + k, none⟩) (n - k) (c - k)) w := by
  have ht : Try.prog.underlying 85 = some (.slice (Try.prog.elem 85)) := by simp [Program.elem, Try.underlying85]
  have he : Try.prog.elem 85 = 5 := by simp [Program.elem, Try.underlying85]
  rw [run_slice_l w 85 _ _ _ ht .i64 _ (by omega) (by omega), he, sizeB]
  have hne : ¬ c = k := by omega
  by_cases h0 : k = 0
  · subst h0; simp [Result.andThen, sliced, Addr.add, hne]
  · simp [Result.andThen, sliced, Addr.add, hne, h0]

theorem slice_to (b o n c k : Nat) (hk : k ≤ c) (w : World) :
    (Instr.slice 85 (.slice (some ⟨b, o, none⟩) n c) none (some (.int .i64 (k : Int))) none).run Try.prog w = .ok (.slice (some ⟨b, o, none⟩) k c) w := by
  have ht : Try.prog.underlying 85 = some (.slice (Try.prog.elem 85)) := by simp [Program.elem, Try.underlying85]
  have he : Try.prog.elem 85 = 5 := by simp [Program.elem, Try.underlying85]
  rw [run_slice_h w 85 _ _ _ ht .i64 _ (by omega) (by omega), he, sizeB]
  by_cases h0 : c = 0
  · simp [Result.andThen, sliced, h0]
  · simp [Result.andThen, sliced, Addr.add, h0]

theorem slice_to_to (b o n c k : Nat) (hk : k ≤ c) (w : World) :
    (Instr.slice 85 (.slice (some ⟨b, o, none⟩) n c) none (some (.int .i64 (k : Int))) (some (.int .i64 (k : Int)))).run Try.prog w = .ok (.slice (some ⟨b, o, none⟩) k k) w := by
  have ht : Try.prog.underlying 85 = some (.slice (Try.prog.elem 85)) := by simp [Program.elem, Try.underlying85]
  have he : Try.prog.elem 85 = 5 := by simp [Program.elem, Try.underlying85]
  rw [run_slice_hm w 85 _ _ _ ht .i64 .i64 _ _ (by omega) (by omega) (by omega), he, sizeB]
  by_cases h0 : k = 0
  · simp [Result.andThen, sliced, h0]
  · simp [Result.andThen, sliced, Addr.add, h0]

theorem slice_mid (b o n c k m : Nat) (hk : k < m) (hm : m ≤ c) (w : World) :
    (Instr.slice 85 (.slice (some ⟨b, o, none⟩) n c) (some (.int .i64 (k : Int))) (some (.int .i64 (m : Int))) (some (.int .i64 (m : Int)))).run Try.prog w = .ok (.slice (some ⟨b, o + k, none⟩) (m - k) (m - k)) w := by
  have ht : Try.prog.underlying 85 = some (.slice (Try.prog.elem 85)) := by simp [Program.elem, Try.underlying85]
  have he : Try.prog.elem 85 = 5 := by simp [Program.elem, Try.underlying85]
  rw [run_slice_lhm w 85 _ _ _ ht .i64 .i64 .i64 _ _ _ (by omega) (by omega) (by omega) (by omega), he, sizeB]
  have hne : ¬ m = k := by omega
  by_cases h0 : k = 0
  · subst h0; simp [Result.andThen, sliced, Addr.add, hne]
  · simp [Result.andThen, sliced, Addr.add, hne, h0]

/-- the list is one of its first n bytes, again and again -/
def isPer (l : List UInt8) (n : Nat) : Bool := l.length % n == 0 && decide (l.drop n = l.take (l.length - n))
def shortFrom (l : List UInt8) : Nat → Nat → Nat
  | 0, n => n
  | fuel + 1, n => if isPer l n then n else shortFrom l fuel (n + 1)
def shortestL (l : List UInt8) : Nat := shortFrom l (l.length - 1) 1

set_option maxHeartbeats 400000 in
theorem shortest_any (b o c n : Nat) (l : List UInt8) (w : World) (hn : l.length = n) (hn1 : 1 ≤ n) (hl : n ≤ 1000000) (hc : n ≤ c) (hat : AtB w b o l) :
    Calls Try.prog 92 #[.slice (some ⟨b, o, none⟩) n c] w fun e w' => e = .returned (.int .i64 (shortestL l)) ∧ ∃ n, w' = w.drewN n := by
  have H1 := Lib.hid hat
  have N1 := Lib.hid hn
  clear hat hn
  go_enter Try.func92, Try.ntmps92
  go_wp2
  go_loopw [3] (fun i wr => ∃ k : Nat, 1 ≤ k ∧ k ≤ n ∧ i = .int .i64 k ∧ Hid (shortFrom l (n - k) k = shortestL l) ∧ Hid (∃ n, wr = w.drewN n)) (fun i _ => n - (intOf i).toNat)
  case atStart => exact ⟨1, Nat.le_refl _, hn1, rfl, Lib.hid (by unfold shortestL; rw [N1.out]), Lib.hid ⟨0, rfl⟩⟩
  case round =>
    obtain ⟨k, hk1, hk, rfl, hs, hw⟩ := hrel
    have A1 : Hid (AtB wr b o l) := by obtain ⟨q, rfl⟩ := hw.out; exact Lib.hid (H1.out.drewN q)
    by_cases hlt : k < n
    · have e1 : ((n : Int)).tmod (k : Int) = ((n % k : Nat) : Int) := by rw [← Int.ofNat_tmod]
      have e2 : ¬ ((k : Int) = 0) := by omega
      have e3 : IntKind.i64.wrap ((n : Int) - (k : Int)) = ((n - k : Nat) : Int) := by rw [i64_of _ (by omega) (by omega)]; omega
      have s1 := fun w => slice_from b o n c k (by omega) (by omega) w
      have s2 := fun w => slice_to b o n c (n - k) (by omega) w
      have Hs : Hid (isPer l k = false → shortFrom l (n - (k + 1)) (k + 1) = shortestL l) := Lib.hid (by
        intro h; rw [← hs.out, show n - k = (n - (k + 1)) + 1 by omega, shortFrom, h]; rfl)
      have Ht : Hid (isPer l k = true → k = shortestL l) := Lib.hid (by
        intro h; rw [← hs.out, show n - k = (n - (k + 1)) + 1 by omega, shortFrom, h]; rfl)
      clear hs
      by_cases hz : n % k = 0
      · have d1 : ((((n % k : Nat)) : Int) == 0) = true := by simp [hz]
        have Z := Lib.hid hz
        clear hz
        generalize hm : n % k = m at *
        have Hm := Lib.hid hm
        clear hm
        have ceq := fun q => equal_any b (o + k) (c - k) b o c (l.drop k) (l.take (n - k)) (wr.drewN q) (n - k) (n - k) (by rw [List.length_drop, N1.out]) (by rw [List.length_take, N1.out]; omega) (by omega) (by omega) ((A1.out.drop k).drewN q) ((A1.out.take (n - k)).drewN q)
        have Ceq := Lib.hid ceq
        clear ceq
        by_cases hp : l.drop k = l.take (n - k)
        · have P1 : Hid (isPer l k = true) := Lib.hid (by unfold isPer; rw [N1.out, Hm.out, Z.out, decide_eq_true hp]; rfl)
          have D1 : Hid (decide (l.drop k = l.take (n - k)) = true) := Lib.hid (decide_eq_true hp)
          have C2 : Hid (∀ q, Calls Try.prog 103 #[.slice (some ⟨b, o + k, none⟩) (n - k) (c - k), .slice (some ⟨b, o, none⟩) (n - k) c] (wr.drewN q) fun e w' => e = .returned (.bool true) ∧ ∃ n, w' = (wr.drewN q).drewN n) := Lib.hid (by intro q; have h := Ceq.out q; rw [D1.out] at h; exact h)
          clear hp Ceq
          go_wp2
          go_quiet ((go_at_call 103; exact Calls.quiet_of (C2.out _)))
          go_wp2
          go_ret
          exact ⟨ret_int (by rw [Ht.out P1.out]), by obtain ⟨q, rfl⟩ := hw.out; exact ⟨_, drewN_drewN _ _ _⟩⟩
        · have P1 : Hid (isPer l k = false) := Lib.hid (by unfold isPer; rw [N1.out, decide_eq_false hp]; simp)
          have D1 : Hid (decide (l.drop k = l.take (n - k)) = false) := Lib.hid (decide_eq_false hp)
          have C2 : Hid (∀ q, Calls Try.prog 103 #[.slice (some ⟨b, o + k, none⟩) (n - k) (c - k), .slice (some ⟨b, o, none⟩) (n - k) c] (wr.drewN q) fun e w' => e = .returned (.bool false) ∧ ∃ n, w' = (wr.drewN q).drewN n) := Lib.hid (by intro q; have h := Ceq.out q; rw [D1.out] at h; exact h)
          clear hp Ceq
          go_wp2
          go_quiet ((go_at_call 103; exact Calls.quiet_of (C2.out _)))
          go_wp2
          go_roundw
          case rel => exact ⟨k + 1, by omega, by omega, rfl, Lib.hid (Hs.out P1.out), Lib.hid (by obtain ⟨q, rfl⟩ := hw.out; exact ⟨_, drewN_drewN _ _ _⟩)⟩
          case measure => simp [intOf]; omega
      · have d1 : ((((n % k : Nat)) : Int) == 0) = false := by simp; omega
        have P1 : Hid (isPer l k = false) := Lib.hid (by unfold isPer; rw [N1.out]; simp [hz])
        clear hz
        generalize n % k = m at *
        go_wp2
        go_quiet (fail)
        go_wp2
        go_roundw
        case rel => exact ⟨k + 1, by omega, by omega, rfl, Lib.hid (Hs.out P1.out), Lib.hid (by obtain ⟨q, rfl⟩ := hw.out; exact ⟨_, drewN_drewN _ _ _⟩)⟩
        case measure => simp [intOf]; omega
    · obtain rfl : k = n := by omega
      have F : Hid (k = shortestL l) := Lib.hid (by rw [← hs.out, Nat.sub_self]; rfl)
      go_wp2
      go_ret
      exact ⟨ret_int (by rw [F.out]), hw.out⟩
end Go.Proofs.Ytbhlddfjfcmncaa
