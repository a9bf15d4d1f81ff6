/- Pack (layer 43): the program. -/
import Derived.Test.YtokkgfefiblmiaaRpH
import Derived.Test.YtokkgfefiblmiaaSbA
import Derived.Deep.CutBlock
namespace Go.Proofs.Ytokkgfefiblmiaa.rp
open Go.ChangeShapes Go.WideShapes Go.ChangeAt Go.RowKit
open Go.Proofs.Ytokkgfefiblmiaa.bits
open Go.Proofs.Ytokkgfefiblmiaa.sb (ws_v ib_below str_bytes bytes_app)
set_option linter.unusedVariables false
set_option linter.unusedSimpArgs false
abbrev IB (b : Nat) (acc : List UInt8) (w : World) : Prop := Lib.IsBuilder 65 5 b b (Lib.byteCells acc) w
theorem byteAt_1 {n : Int} (h : fit n) : byteAt n 0 = by1 n := by
  apply UInt8.toNat_inj.1
  have h1 := byteAt_val n 0
  have h2 := by1_nat h
  obtain ⟨h3, h4⟩ := h
  simp at h1
  omega
theorem put1 (s : List UInt8) (n : Int) (w : World) (hs : s.length ≤ 1000) (h : fit n) : Calls Try.prog 29 #[.string ⟨s.toArray⟩, .int .i64 n, .int .i64 1] w fun e w' => e = .returned (.string ⟨(s ++ [by1 n]).toArray⟩) ∧ Below w.heap.size w w' := by
  refine (put_v ⟨s.toArray⟩ n 1 1 w (by rw [str_size]; omega) (Lib.hid (by decide)) (by omega) (by omega)).mono ?_
  rintro e w' ⟨rfl, hb⟩
  refine ⟨?_, hb⟩
  show Ending.returned (.string ⟨(s ++ [byteAt n 0]).toArray⟩) = _
  rw [byteAt_1 h]
theorem fits_v (n : Int) (v : Bool) (w : World) (hv : (decide (0 ≤ n ∧ n ≤ 255)) = v) : Calls Try.prog 27 #[.int .i64 n] w fun e w' => e = .returned (.bool v) ∧ w' = w := by
  by_cases h1 : 0 ≤ n
  · by_cases h2 : n ≤ 255
    · have : v = true := by rw [← hv]; simp [h1, h2]
      subst this
      clear hv
      go_enter Try.func27, Try.ntmps27
      go_wp2_with fail
      go_ret
      exact ⟨rfl, rfl⟩
    · have : v = false := by rw [← hv]; simp [h2]
      subst this
      have h2' : ¬ n ≤ 255 := h2
      clear hv
      go_enter Try.func27, Try.ntmps27
      go_wp2_with fail
      go_ret
      exact ⟨rfl, rfl⟩
  · have : v = false := by rw [← hv]; simp [h1]
    subst this
    have h1' : ¬ 0 ≤ n := h1
    clear hv
    go_enter Try.func27, Try.ntmps27
    go_wp2_with fail
    go_ret
    exact ⟨rfl, rfl⟩
theorem RV.part2 {w : World} {b f n c : Nat} {l : List P2} (h : RV 2 enQ w (.slice (some ⟨b, f, none⟩) n c) l) {i t : Nat} (hi : i + t = n) : RV 2 enQ w (.slice (some ⟨b, f + i * 2, none⟩) t (c - i)) (l.drop i) := by
  obtain ⟨h1, h2, h3⟩ := h.len
  have hl : (l.drop i).length = t := by rw [List.length_drop]; omega
  refine ⟨some ⟨b, f + i * 2, none⟩, c - i, by rw [hl], by rw [hl]; omega, by omega, fun e => by simp at e, fun j x hx => ?_⟩
  rw [List.getElem?_drop] at hx
  obtain ⟨b', f', e, hlt, hc⟩ := h.at (i + j) x hx
  rw [Option.some.injEq, Addr.mk.injEq] at e
  obtain ⟨rfl, rfl, _⟩ := e
  refine ⟨b, f + i * 2, rfl, hlt, fun q u hu => ?_⟩
  rw [← hc q u hu]
  congr 2
  rw [Nat.add_mul]
  omega
theorem RV.zero2 {w : World} {a : Option Addr} {c : Nat} (hc : c ≤ maxLen) (ha : a = none → c = 0) : RV 2 enQ w (.slice a 0 c) ([] : List P2) := ⟨a, c, rfl, Nat.zero_le _, hc, ha, fun i x hx => by simp at hx⟩
def lenV : Value → Nat
  | .slice _ n _ => n
  | _ => 0
/-- what is written so far, and what is left of the script. -/
structure PB (w wr : World) (l : List P2) (b : Nat) (v : Value) (acc : List UInt8) (l' : List P2) : Prop where
  r : RV 2 enQ w v l'
  e : acc ++ rpk 0 l' = rpk 0 l
  s : IB b acc wr
  f : ∀ x ∈ l', fit2 x
  bw : Below w.heap.size w wr
  h : w.heap.size ≤ b
theorem PB.below {w wr w' : World} {l : List P2} {b : Nat} {v : Value} {acc : List UInt8} {l' : List P2} (h : PB w wr l b v acc l') (hb : Below wr.heap.size wr w') : PB w w' l b v acc l' := ⟨h.r, h.e, ib_below h.s hb, h.f, tr3 h.bw hb, h.h⟩
theorem cc_k (B b : Nat) (bs : List Value) (w : World) (h : Lib.IsBuilder 65 5 B b bs w) (xb : Nat) (cs : Array Value) (hx : w.heap[xb]? = some (.cells cs 60 (0, 0))) :
    Calls Try.prog 37 #[.pointer (some ⟨b, 0, none⟩)] w fun e w' => e = .returned (.tuple #[]) ∧ (Lib.BuilderAt 65 5 B b (.pointer (some ⟨b, 0, none⟩)) bs w' ∧ Below B w w' ∧ w'.heap[xb]? = w.heap[xb]?) := by
  rcases h with h | h
  · refine (sb.cc_fresh b w h.cell0 h.shape h.frozen0).mono ?_
    rintro e w' ⟨rfl, rfl⟩
    refine ⟨rfl, h.used _, (Below.refl B w).setCell (p := ⟨b, 0, none⟩) h.1 _, ro.set_oth _ _ _ _ _ (fun e => ?_)⟩
    obtain ⟨_, v, hbk, _⟩ := h
    subst e
    rw [hx] at hbk
    injection hbk with hbk
    injection hbk with _ h3
    exact absurd h3 (by decide)
  · refine (sb.cc_used b w h.cell0).mono ?_
    rintro e w' ⟨rfl, rfl⟩
    exact ⟨rfl, h, Below.refl B _, rfl⟩
theorem sizeB : (Try.prog.info? 65).map (·.size) = some 2 := by kernel_rfl
theorem infoByte : (Try.prog.info? 5).map (fun i => (i.zero, i.size, i.bytes)) = some (some (.int .u8 0), 1, 1) := by kernel_rfl
set_option maxRecDepth 20000 in
theorem ws_k (B b : Nat) (bs : List Value) (s : ByteArray) (w : World) (h : Lib.IsBuilder 65 5 B b bs w) (hlen : bs.length + s.size ≤ 140737488355328) (hBw : B ≤ w.heap.size) (xb : Nat) (cs : Array Value) (hx : w.heap[xb]? = some (.cells cs 60 (0, 0))) :
    Calls Try.prog 28 #[.pointer (some ⟨b, 0, none⟩), .string s] w fun e w' => e = .returned (.tuple #[.int .i64 s.size, .nilIface]) ∧ (Lib.BuilderAt 65 5 B b (.pointer (some ⟨b, 0, none⟩)) (bs ++ Lib.strCells s) w' ∧ Below B w w' ∧ w'.heap[xb]? = w.heap[xb]?) := by
  obtain ⟨i0, hi, hz0, hz1, hz2⟩ := info_parts infoByte
  go_enter Try.func28, Try.ntmps28
  go_wp2_with fail
  refine (cc_k B b bs _ h xb cs hx).mono ?_
  rintro e w1 ⟨rfl, h1, hb1, hx0⟩
  have HX0 := Lib.hid hx0
  have hx1 : w1.heap[xb]? = some (.cells cs 60 (0, 0)) := hx0.trans hx
  have HXX := Lib.hid hx1
  clear hx0 hx1 hx
  obtain ⟨hB, v, hbk, hown, hne⟩ := h1
  have c0 : w1.cell? ⟨b, 0, none⟩ = some (.pointer (some ⟨b, 0, none⟩)) := by rw [Lib.cell_of_heap hbk]; rfl
  have c1 : w1.cell? ⟨b, 1, none⟩ = some v := by rw [Lib.cell_of_heap hbk]; rfl
  go_wp2_with (at_builtin; refine Lib.wpList_append_own_string _ rfl _ _ 63 9 rfl B 5 i0 Try.underlying63 Try.underlying9 hi hz0 hz1 hz2 _ _ _ rfl hown s rfl ?c3 ?c4 ?c5 ?_)
  case c3 => unfold maxLen; omega
  case c4 => omega
  case c5 => have := hb1.size; omega
  intro v' w2 hown' hgrow _
  have hlt : b < w1.heap.size := (Array.getElem?_eq_some_iff.1 hbk).1
  have hb2 : w2.heap[b]? = some (.cells #[.pointer (some ⟨b, 0, none⟩), v] 65 (0, 0)) := by
    rw [hgrow.block b hlt (fun e => hne e.symm)]
    exact hbk
  have d0 : w2.cell? ⟨b, 0, none⟩ = some (.pointer (some ⟨b, 0, none⟩)) := by rw [Lib.cell_of_heap hb2]; rfl
  have d1 : w2.cell? ⟨b, 1, none⟩ = some v := by rw [Lib.cell_of_heap hb2]; rfl
  have f1 : w2.frozen? ⟨b, 1, none⟩ = false := Lib.frozen_of_heap hb2 1
  obtain ⟨ao, n', cap, rfl⟩ : ∃ ao n' cap, v' = .slice ao n' cap := by
    rcases hown'.2 with ⟨hv, _⟩ | ⟨g, cap, cur, hv, _⟩
    · exact ⟨_, _, _, hv⟩
    · exact ⟨_, _, _, hv⟩
  have hxb : w2.heap[xb]? = w1.heap[xb]? := hgrow.block xb (ro.lt_of HXX.out) (fun e => by
    obtain ⟨_, ⟨h1, _⟩ | ⟨g, cap', cur, h1, _, hh, _⟩⟩ := hown
    · rw [h1] at e; simp [Value.ownBlock] at e
    · rw [h1] at e
      simp [Value.ownBlock] at e
      subst e
      rw [HXX.out] at hh
      injection hh with hh
      injection hh with _ h3
      exact absurd h3 (by decide))
  have hbx : xb ≠ b := fun e => by
    subst e
    rw [HXX.out] at hbk
    injection hbk with hbk
    injection hbk with _ h3
    exact absurd h3 (by decide)
  have HF := Lib.hid (show xb ≠ b ∧ w2.heap[xb]? = w1.heap[xb]? from ⟨hbx, hxb⟩)
  clear hxb hbx
  go_wp2_with fail
  go_ret2
  refine ⟨rfl, ?_, ?_, (ro.set_oth _ _ _ _ _ HF.out.1).trans (HF.out.2.trans HX0.out)⟩
  · exact Lib.BuilderAt.put (T := 65) (e := 5) hB hb2 (bs' := bs ++ Lib.strCells s) (by simpa [Lib.strCells_length] using hown') (by decide)
  · exact (hb1.grown hgrow (by have := hb1.size; omega) (fun k hk => (hown.lt k hk).1)).setCell (p := ⟨b, 1, none⟩) hB _
set_option maxRecDepth 20000 in
set_option maxHeartbeats 4000000 in
theorem pack_v (a : Option Addr) (n c : Nat) (l : List P2) (w : World) (h : RV 2 enQ w (.slice a n c) l) (hn : n ≤ 6000) :
    Calls Try.prog 11 #[.slice a n c] w (PkP w l) := by
  obtain ⟨hnl, hnc, hcm⟩ := h.len
  unfold maxLen at hcm
  have HR0 := Lib.hid h
  have HNL := Lib.hid hnl
  have HY : Hid (∀ w', (∀ x ∈ l, fit2 x) → Below w.heap.size w w' → PkP w l (.returned (.tuple #[.string ⟨(rpk 0 l).toArray⟩, .int .i64 0])) w') := Lib.hid (fun w' h1 h2 => ⟨h2, fun _ => rfl, fun h => absurd h1 h⟩)
  have HNo : Hid (∀ w', (¬ ∀ x ∈ l, fit2 x) → Below w.heap.size w w' → PkP w l (.returned (.tuple #[.string ⟨#[]⟩, .int .i64 3])) w') := Lib.hid (fun w' h1 h2 => ⟨h2, fun h => absurd h h1, fun _ => rfl⟩)
  obtain ⟨P, hP⟩ : ∃ P, PkP w l = P := ⟨_, rfl⟩
  rw [hP] at HY HNo ⊢
  clear hP h hnl
  go_enter Try.func11, Try.ntmps11
  go_wp2_with fail
  go_loopw [11] (fun iv wr => ∃ (k : Nat), k ≤ n ∧ iv = .int .i64 (k : Int) ∧ Hid (∀ x ∈ l.take k, fit2 x) ∧ Hid (Below w.heap.size w wr)) (fun iv _ => n - (intOf iv).toNat)
  case atStart => exact ⟨0, Nat.zero_le _, rfl, Lib.hid (fun x hx => by simp at hx), Lib.hid (Below.refl _ _)⟩
  case round =>
    obtain ⟨k, hk, rfl, HF, HB⟩ := hrel
    by_cases hlt : k < n
    · obtain ⟨⟨x1, x2⟩, hx⟩ : ∃ x, l[k]? = some x := ⟨_, List.getElem?_eq_getElem (by rw [← HNL.out]; exact hlt)⟩
      obtain ⟨b, f, rfl, hbl, c0, c1⟩ := RV.two (HR0.out.below HB.out) k _ hx
      dsimp only at c0 c1
      have hltI : (k : Int) < (n : Int) := by omega
      have HXI := Lib.hid (List.mem_of_getElem? hx)
      have HTK : Hid (l.take (k + 1) = l.take k ++ [(x1, x2)]) := Lib.hid (by rw [List.take_add_one, hx]; rfl)
      clear hx
      obtain ⟨v1, hv1⟩ : ∃ v, decide (0 ≤ x1 ∧ x1 ≤ 255) = v := ⟨_, rfl⟩
      obtain ⟨v2, hv2⟩ : ∃ v, decide (0 ≤ x2 ∧ x2 ≤ 255) = v := ⟨_, rfl⟩
      have HB1 : Hid (Below w.heap.size w (wr.alloc (.cells #[.int .i64 x1, .int .i64 x2] 60))) := Lib.hid (tr3 HB.out (by go_grown))
      have F1 := Lib.hid (fits_v x1 v1 (wr.alloc (.cells #[.int .i64 x1, .int .i64 x2] 60)) hv1)
      have F2 := Lib.hid (fits_v x2 v2 (wr.alloc (.cells #[.int .i64 x1, .int .i64 x2] 60)) hv2)
      have bad : ¬ fit2 (x1, x2) → Hid (P (.returned (.tuple #[.string ⟨#[]⟩, .int .i64 3])) (wr.alloc (.cells #[.int .i64 x1, .int .i64 x2] 60))) := fun hb => Lib.hid (HNo.out _ (fun h => hb (h _ HXI.out)) HB1.out)
      cases v1 with
      | false =>
        have HBad := bad (fun h => by have h1 := h.1; unfold fit at h1; rw [decide_eq_false_iff_not] at hv1; exact hv1 h1)
        clear bad hv1 hv2 F2
        go_wp2_with fail
        refine F1.out.mono ?_
        rintro e w2 ⟨rfl, rfl⟩
        go_wp2_with fail
        exact HBad.out
      | true =>
        cases v2 with
        | false =>
          have HBad := bad (fun h => by have h1 := h.2; unfold fit at h1; rw [decide_eq_false_iff_not] at hv2; exact hv2 h1)
          clear bad hv1 hv2
          go_wp2_with fail
          refine F1.out.mono ?_
          rintro e w2 ⟨rfl, rfl⟩
          clear F1
          go_wp2_with fail
          refine F2.out.mono ?_
          rintro e w2 ⟨rfl, rfl⟩
          go_wp2_with fail
          exact HBad.out
        | true =>
          have HF1 : Hid (∀ x ∈ l.take (k + 1), fit2 x) := Lib.hid (fun x hx => by
            rw [HTK.out] at hx
            rcases List.mem_append.1 hx with hx | hx
            · exact HF.out x hx
            · simp at hx
              subst hx
              rw [decide_eq_true_eq] at hv1 hv2
              exact ⟨hv1, hv2⟩)
          clear bad hv1 hv2
          go_wp2_with fail
          refine F1.out.mono ?_
          rintro e w2 ⟨rfl, rfl⟩
          clear F1
          go_wp2_with fail
          refine F2.out.mono ?_
          rintro e w2 ⟨rfl, rfl⟩
          go_wp2_with fail
          go_roundw
          case rel => exact ⟨k + 1, by omega, by go_num, HF1, HB1⟩
          case measure => simp [intOf]; omega
    · obtain rfl : n = k := by omega
      have HFA : Hid (∀ x ∈ l, fit2 x) := Lib.hid (by have := HF.out; rw [HNL.out, List.take_length] at this; exact this)
      have HE : Hid (∀ w', Below w.heap.size w w' → P (.returned (.tuple #[.string ⟨(rpk 0 l).toArray⟩, .int .i64 0])) w') := Lib.hid (fun w' => HY.out w' HFA.out)
      obtain ⟨b, HBb⟩ : ∃ b, Hid (wr.heap.size = b) := ⟨_, Lib.hid rfl⟩
      have HP0 : Hid (PB w (wr.alloc (.cells #[.pointer none, .slice none 0 0] 65)) l b (.slice a n c) [] l) := Lib.hid ⟨HR0.out, rfl, by rw [← HBb.out]; exact Lib.fresh_isBuilder _ _ wr, HFA.out, tr3 HB.out (by go_grown), by rw [← HBb.out]; exact HB.out.size⟩
      clear HF HNo HY
      clear HB hk hlt
      go_wp2_with fail
      rw [HBb.out]
      clear HBb
      go_loopw [0] (fun sv wr' => ∃ (ja : Option Addr) (jn jc : Nat), sv = .slice ja jn jc ∧ Hid (∃ acc l', PB w wr' l b (.slice ja jn jc) acc l')) (fun sv _ => lenV sv)
      case atStart => exact ⟨a, n, c, rfl, Lib.hid ⟨[], l, HP0.out⟩⟩
      case round =>
        clear HP0
        obtain ⟨ja, jn, jc, rfl, HX⟩ := hrel
        obtain ⟨acc, l', hPB⟩ := HX.out
        obtain ⟨hl1, hl2, hl3⟩ := hPB.r.len
        unfold maxLen at hl3
        have hacc : acc.length ≤ 18000 := by
          obtain ⟨kk, h1, h2⟩ := rpk_len l 0
          have := congrArg List.length hPB.e
          rw [List.length_append, h1] at this
          have := HNL.out
          omega
        have HLL := Lib.hid hl1
        by_cases hj : 0 < jn
        · have hjI : (0 : Int) < (jn : Int) := by omega
          obtain ⟨⟨x1, x2⟩, hx⟩ : ∃ x, l'[0]? = some x := ⟨_, List.getElem?_eq_getElem (by rw [← hl1]; exact hj)⟩
          obtain ⟨bb, f, rfl, hbl, c0, c1⟩ := RV.two (hPB.r.below hPB.bw) 0 _ hx
          simp only [Nat.zero_mul, Nat.add_zero] at c0 c1
          have hfx := hPB.f _ (List.mem_of_getElem? hx)
          have HFX := Lib.hid hfx
          have hl0 : rpk 0 ((x1, x2) :: l'.drop 1) = rpk 0 l' := by
            have := drop_at2 hx
            rw [List.drop_zero] at this
            rw [← this]
          have HL0 := Lib.hid hl0
          obtain ⟨W1, hW1⟩ : ∃ W1, wr.alloc (.cells #[.int .i64 x1, .int .i64 x2] 60) = W1 := ⟨_, rfl⟩
          obtain ⟨xb, hxb⟩ : ∃ xb, wr.heap.size = xb := ⟨_, rfl⟩
          have HX1 : Hid (W1.heap[xb]? = some (.cells #[.int .i64 x1, .int .i64 x2] 60 (0, 0))) := Lib.hid (by rw [← hW1, ← hxb]; exact ro.heap_new _ _)
          have HP1 := Lib.hid (hPB.below (w' := W1) (by rw [← hW1]; go_grown))
          have HW1 := Lib.hid hW1
          have HXB := Lib.hid hxb
          have HACC := Lib.hid hacc
          clear hPB HX hx hfx hl0 hW1 hxb hbl hl1 hacc
          go_wp2_with fail
          rw [HW1.out, HXB.out]
          clear HW1 HXB c0 c1
          obtain ⟨mn, hmn⟩ : ∃ mn : Nat, min (jn : Int) 256 = (mn : Int) := ⟨min jn 256, by omega⟩
          have hmnj : mn ≤ jn := by omega
          have hmn2 : mn ≤ 256 := by omega
          have hmn3 : mn = jn ∨ mn = 256 := by omega
          go_loopw [8] (fun qv wr' => ∃ (m : Nat), m + 1 ≤ jn ∧ m < 256 ∧ qv = .int .i64 ((m + 1 : Nat) : Int) ∧ Hid (rpk m ((x1, x2) :: l'.drop (m + 1)) = rpk 0 l') ∧ Hid (Below W1.heap.size W1 wr')) (fun qv _ => jn - (intOf qv).toNat)
          case atStart => exact ⟨0, hj, by omega, rfl, HL0, Lib.hid (Below.refl _ _)⟩
          case round =>
            obtain ⟨m, hmj, hm, rfl, HM, HBi⟩ := hrel
            have x0 : wr.cell? ⟨xb, 0, none⟩ = some (.int .i64 x1) := ro.cel ((HBi.out.block xb (ro.lt_of HX1.out)).trans HX1.out) 0
            have x1' : wr.cell? ⟨xb, 1, none⟩ = some (.int .i64 x2) := ro.cel ((HBi.out.block xb (ro.lt_of HX1.out)).trans HX1.out) 1
            obtain ⟨q, hq⟩ : ∃ q, m + 1 = q := ⟨_, rfl⟩
            rw [hq] at HM hmj ⊢
            have hqI : (q : Int) ≤ (jn : Int) := by omega
            by_cases hqn : q < mn
            · have hqnI : (q : Int) < (mn : Int) := by omega
              obtain ⟨⟨y1, y2⟩, hy⟩ : ∃ y, l'[q]? = some y := ⟨_, List.getElem?_eq_getElem (by rw [← HLL.out]; omega)⟩
              obtain ⟨b', f', e', _, d0, d1⟩ := RV.two ((HP1.out.r.below HP1.out.bw).below HBi.out) q _ hy
              rw [Option.some.injEq, Addr.mk.injEq] at e'
              obtain ⟨rfl, rfl, _⟩ := e'
              dsimp only at d0 d1
              have hqj : q < jn := by omega
              have hqjI : (q : Int) < (jn : Int) := by omega
              have HDR := Lib.hid (drop_at2 hy)
              obtain ⟨v, hv⟩ : ∃ v, (y1 == x1 && y2 == x2) = v := ⟨_, rfl⟩
              have hvi := pk_iff (x := (y1, y2)) (y := (x1, x2)) hv
              have heq := pk_eq y1 y2 x1 x2 v hv
              clear hy hv
              cases v with
              | true =>
                have hxy := hvi.1 rfl
                rw [hxy] at HDR
                have HMN : Hid (rpk q ((x1, x2) :: l'.drop (q + 1)) = rpk 0 l') := Lib.hid (by rw [← hq, ← rpk_same (by omega), hq, ← HDR.out]; exact HM.out)
                clear hvi hxy HM
                go_wp2_with fail
                go_quiet (fail)
                have HBq := Lib.hid (tr3 HBi.out (below_drewN wr nq))
                go_wp2_with fail
                go_roundw
                case rel => exact ⟨q, by omega, by omega, by go_num, HMN, HBq⟩
                case measure => simp [intOf]; omega
              | false =>
                have hnxy : ¬ ((y1, y2) = (x1, x2)) := fun h => by have := hvi.2 h; cases this
                have HEQ : Hid (rpk m ((x1, x2) :: l'.drop q) = tri (x1, x2) m ++ rpk 0 (l'.drop q)) := Lib.hid (rpk_end (fun y z h1 h2 => by rw [HDR.out] at h1; injection h1 with h3 h4; exact absurd (h3.trans h2) hnxy))
                clear hvi hnxy HDR
                have HMM := HM
                go_wp2_with fail
                go_quiet (fail)
                obtain ⟨Wa, hWa⟩ : ∃ Wa, wr.drewN nq = Wa := ⟨_, rfl⟩
                rw [hWa]
                have HBa := Lib.hid (tr3 HBi.out (show Below wr.heap.size wr Wa by rw [← hWa]; exact below_drewN _ _))
                have y0 : Wa.cell? ⟨xb, 0, none⟩ = some (.int .i64 x1) := ro.cel ((HBa.out.block xb (ro.lt_of HX1.out)).trans HX1.out) 0
                have y1' : Wa.cell? ⟨xb, 1, none⟩ = some (.int .i64 x2) := ro.cel ((HBa.out.block xb (ro.lt_of HX1.out)).trans HX1.out) 1
                have yl : xb < Wa.heap.size := Nat.lt_of_lt_of_le (ro.lt_of HX1.out) HBa.out.size
                clear hWa
                obtain ⟨s1, hs1⟩ : ∃ s : ByteArray, s = ⟨([] ++ [by1 x1]).toArray⟩ := ⟨_, rfl⟩
                obtain ⟨s2, hs2⟩ : ∃ s : ByteArray, s = ⟨(([] ++ [by1 x1]) ++ [by1 x2]).toArray⟩ := ⟨_, rfl⟩
                obtain ⟨s3, hs3⟩ : ∃ s : ByteArray, s = ⟨((([] ++ [by1 x1]) ++ [by1 x2]) ++ [by1 (m : Int)]).toArray⟩ := ⟨_, rfl⟩
                have keep : ∀ W W', (W.cell? ⟨xb, 0, none⟩ = some (.int .i64 x1) ∧ W.cell? ⟨xb, 1, none⟩ = some (.int .i64 x2) ∧ Below Wa.heap.size Wa W) → Below W.heap.size W W' → (W'.cell? ⟨xb, 0, none⟩ = some (.int .i64 x1) ∧ W'.cell? ⟨xb, 1, none⟩ = some (.int .i64 x2) ∧ Below Wa.heap.size Wa W') := fun W W' h hb => ⟨(hb.cell (p := ⟨xb, 0, none⟩) (Nat.lt_of_lt_of_le yl h.2.2.size)).trans h.1, (hb.cell (p := ⟨xb, 1, none⟩) (Nat.lt_of_lt_of_le yl h.2.2.size)).trans h.2.1, tr3 h.2.2 hb⟩
                have hss : Wa.drew.cell? ⟨xb, 0, none⟩ = some (.int .i64 x1) ∧ Wa.drew.cell? ⟨xb, 1, none⟩ = some (.int .i64 x2) ∧ Below Wa.heap.size Wa Wa.drew := ⟨y0, y1', below_drewN Wa 1⟩
                have hfm : fit (m : Int) := ⟨by omega, by omega⟩
                have P1 : Hid (Calls Try.prog 29 #[.string ⟨#[]⟩, .int .i64 x1, .int .i64 1] Wa.drew fun e w' => e = .returned (.string s1) ∧ Hid (w'.cell? ⟨xb, 0, none⟩ = some (.int .i64 x1) ∧ w'.cell? ⟨xb, 1, none⟩ = some (.int .i64 x2) ∧ Below Wa.heap.size Wa w')) := Lib.hid ((put1 [] x1 Wa.drew (by simp) HFX.out.1).mono (fun e w' h => ⟨by rw [hs1]; exact h.1, Lib.hid (keep _ _ hss h.2)⟩))
                have P2 : Hid (∀ W, (W.cell? ⟨xb, 0, none⟩ = some (.int .i64 x1) ∧ W.cell? ⟨xb, 1, none⟩ = some (.int .i64 x2) ∧ Below Wa.heap.size Wa W) → Calls Try.prog 29 #[.string s1, .int .i64 x2, .int .i64 1] W fun e w' => e = .returned (.string s2) ∧ Hid (w'.cell? ⟨xb, 0, none⟩ = some (.int .i64 x1) ∧ w'.cell? ⟨xb, 1, none⟩ = some (.int .i64 x2) ∧ Below Wa.heap.size Wa w')) := Lib.hid (fun W hW => by
                  rw [hs1]
                  exact (put1 _ x2 W (by simp) HFX.out.2).mono (fun e w' h => ⟨by rw [hs2]; exact h.1, Lib.hid (keep _ _ hW h.2)⟩))
                have P3 : Hid (∀ W, (W.cell? ⟨xb, 0, none⟩ = some (.int .i64 x1) ∧ W.cell? ⟨xb, 1, none⟩ = some (.int .i64 x2) ∧ Below Wa.heap.size Wa W) → Calls Try.prog 29 #[.string s2, .int .i64 (m : Int), .int .i64 1] W fun e w' => e = .returned (.string s3) ∧ Hid (w'.cell? ⟨xb, 0, none⟩ = some (.int .i64 x1) ∧ w'.cell? ⟨xb, 1, none⟩ = some (.int .i64 x2) ∧ Below Wa.heap.size Wa w')) := Lib.hid (fun W hW => by
                  rw [hs2]
                  exact (put1 _ (m : Int) W (by simp) hfm).mono (fun e w' h => ⟨by rw [hs3]; exact h.1, Lib.hid (keep _ _ hW h.2)⟩))
                have hs3t : s3 = ⟨(tri (x1, x2) m).toArray⟩ := by
                  rw [hs3]
                  have : by1 (m : Int) = UInt8.ofNat m := by unfold by1; simp
                  rw [this]
                  rfl
                have hs3s : s3.size = 3 := by rw [hs3t]; rfl
                have WS : Hid (∀ W, (W.cell? ⟨xb, 0, none⟩ = some (.int .i64 x1) ∧ W.cell? ⟨xb, 1, none⟩ = some (.int .i64 x2) ∧ Below Wa.heap.size Wa W) → Calls Try.prog 28 #[.pointer (some ⟨b, 0, none⟩), .string s3] W fun e w' => e = .returned (.tuple #[.int .i64 3, .nilIface]) ∧ Hid (IB b (acc ++ tri (x1, x2) m) w' ∧ Below w.heap.size w w') ∧ Hid (w'.cell? ⟨xb, 0, none⟩ = some (.int .i64 x1) ∧ w'.cell? ⟨xb, 1, none⟩ = some (.int .i64 x2))) := Lib.hid (fun W hW => by
                  have hb1 : Below W1.heap.size W1 W := tr3 HBa.out hW.2.2
                  have hib : IB b acc W := ib_below HP1.out.s hb1
                  have hbs : b < W1.heap.size := by
                    rcases HP1.out.s with h | h
                    · obtain ⟨_, v, h, _⟩ := h; exact ro.lt_of h
                    · obtain ⟨_, v, h, _⟩ := h; exact ro.lt_of h
                  have hxW := (hb1.block xb (ro.lt_of HX1.out)).trans HX1.out
                  refine (ws_k b b (Lib.byteCells acc) s3 W hib (by rw [hs3s]; have := HACC.out; simp [Lib.byteCells]; omega) (by have := hb1.size; omega) xb _ hxW).mono ?_
                  rintro e w' ⟨rfl, h1, h2, h3⟩
                  refine ⟨by rw [hs3s]; rfl, Lib.hid ⟨.inr ?_, (HP1.out.bw.trans (hb1.mono HP1.out.bw.size)).trans (h2.mono HP1.out.h)⟩, Lib.hid ⟨ro.cel (h3.trans hxW) 0, ro.cel (h3.trans hxW) 1⟩⟩
                  rw [hs3t, str_bytes, bytes_app] at h1
                  exact h1)
                have HSW := Lib.hid hss
                have hqm : IntKind.i64.wrap (m : Int) = (m : Int) := by rw [IntKind.wrap_i64]; omega
                have hqm2 : (q : Int) - 1 = (m : Int) := by omega
                clear hs1 hs2 hs3 keep hfm hs3t hs3s x0 x1'
                go_wp2_with fail
                have hss2 : Wa.drew.cell? ⟨xb, 0, none⟩ = some (.int .i64 x1) ∧ Wa.drew.cell? ⟨xb, 1, none⟩ = some (.int .i64 x2) := ⟨hss.1, hss.2.1⟩
                go_region_held3 (fun w' => w'.cell? ⟨xb, 0, none⟩ = some (.int .i64 x1) ∧ w'.cell? ⟨xb, 1, none⟩ = some (.int .i64 x2)) (first | (with_reducible assumption) | (with_reducible exact hss2))
                  (first
                    | (go_at_call 29; (with_reducible refine P1.out.mono ?_); rintro e w2 ⟨rfl, h2⟩; have t2 := h2.out; have u2 := And.intro t2.1 t2.2.1)
                    | (go_at_call 29; (with_reducible refine (P2.out _ t2).mono ?_); rintro e w3 ⟨rfl, h3⟩; have t3 := h3.out; have u3 := And.intro t3.1 t3.2.1)
                    | (go_at_call 29; (with_reducible refine (P3.out _ t3).mono ?_); rintro e w4 ⟨rfl, h4⟩; have t4 := h4.out; have u4 := And.intro t4.1 t4.2.1)
                    | (go_at_call 28; (with_reducible refine (WS.out _ t4).mono ?_); rintro e w6 ⟨rfl, h6, u6⟩; have v6 := u6.out))
                by_cases hqc : q = jc
                · have HQN := Lib.hid (show q = jn by omega)
                  have HRV : Hid (RV 2 enQ w (.slice (some ⟨bb, f, none⟩) 0 0) (l'.drop q)) := Lib.hid (by
                    rw [List.drop_eq_nil_of_le (by rw [← HLL.out]; omega)]
                    exact RV.zero2 (Nat.zero_le _) (fun _ => rfl))
                  clear hqn
                  have HPN : Hid (PB w w6 l b (.slice (some ⟨bb, f, none⟩) 0 0) (acc ++ tri (x1, x2) m) (l'.drop q)) := Lib.hid ⟨HRV.out, by rw [List.append_assoc, ← HEQ.out, ← HP1.out.e, ← HMM.out], h6.out.1, fun x hx => HP1.out.f x (List.mem_of_mem_drop hx), h6.out.2, HP1.out.h⟩
                  clear HEQ HMM HACC h6
                  go_wp2_with fail
                  go_roundw
                  case rel => exact ⟨_, _, _, rfl, Lib.hid ⟨_, _, HPN.out⟩⟩
                  case measure => simp [lenV]; omega
                · have hqcl : q < jc := by omega
                  have HRV : Hid (RV 2 enQ w (.slice (some ⟨bb, f + q * 2, none⟩) (jn - q) (jc - q)) (l'.drop q)) := Lib.hid (RV.part2 HP1.out.r (by omega))
                  clear hqn
                  have HPN : Hid (PB w w6 l b (.slice (some ⟨bb, f + q * 2, none⟩) (jn - q) (jc - q)) (acc ++ tri (x1, x2) m) (l'.drop q)) := Lib.hid ⟨HRV.out, by rw [List.append_assoc, ← HEQ.out, ← HP1.out.e, ← HMM.out], h6.out.1, fun x hx => HP1.out.f x (List.mem_of_mem_drop hx), h6.out.2, HP1.out.h⟩
                  clear HEQ HMM HACC h6
                  go_wp2_with fail
                  go_roundw
                  case rel => exact ⟨_, _, _, rfl, Lib.hid ⟨_, _, HPN.out⟩⟩
                  case measure => simp [lenV]; omega
            · have hqnI : ¬ (q : Int) < (mn : Int) := by omega
              have hqd : decide ((q : Int) < (mn : Int)) = false := decide_eq_false hqnI
              have hqd2 : decide (q < mn) = false := decide_eq_false hqn
              have HEQ : Hid (rpk m ((x1, x2) :: l'.drop q) = tri (x1, x2) m ++ rpk 0 (l'.drop q)) := Lib.hid (rpk_end (fun y z h1 h2 => by
                by_cases e : q = jn
                · rw [List.drop_eq_nil_of_le (by rw [← HLL.out]; omega)] at h1; cases h1
                · omega))
              have HMM := HM
              go_wp2_with fail
              go_quiet (fail)
              obtain ⟨Wa, hWa⟩ : ∃ Wa, wr.drewN nq = Wa := ⟨_, rfl⟩
              rw [hWa]
              have HBa := Lib.hid (tr3 HBi.out (show Below wr.heap.size wr Wa by rw [← hWa]; exact below_drewN _ _))
              have y0 : Wa.cell? ⟨xb, 0, none⟩ = some (.int .i64 x1) := ro.cel ((HBa.out.block xb (ro.lt_of HX1.out)).trans HX1.out) 0
              have y1' : Wa.cell? ⟨xb, 1, none⟩ = some (.int .i64 x2) := ro.cel ((HBa.out.block xb (ro.lt_of HX1.out)).trans HX1.out) 1
              have yl : xb < Wa.heap.size := Nat.lt_of_lt_of_le (ro.lt_of HX1.out) HBa.out.size
              clear hWa
              obtain ⟨s1, hs1⟩ : ∃ s : ByteArray, s = ⟨([] ++ [by1 x1]).toArray⟩ := ⟨_, rfl⟩
              obtain ⟨s2, hs2⟩ : ∃ s : ByteArray, s = ⟨(([] ++ [by1 x1]) ++ [by1 x2]).toArray⟩ := ⟨_, rfl⟩
              obtain ⟨s3, hs3⟩ : ∃ s : ByteArray, s = ⟨((([] ++ [by1 x1]) ++ [by1 x2]) ++ [by1 (m : Int)]).toArray⟩ := ⟨_, rfl⟩
              have keep : ∀ W W', (W.cell? ⟨xb, 0, none⟩ = some (.int .i64 x1) ∧ W.cell? ⟨xb, 1, none⟩ = some (.int .i64 x2) ∧ Below Wa.heap.size Wa W) → Below W.heap.size W W' → (W'.cell? ⟨xb, 0, none⟩ = some (.int .i64 x1) ∧ W'.cell? ⟨xb, 1, none⟩ = some (.int .i64 x2) ∧ Below Wa.heap.size Wa W') := fun W W' h hb => ⟨(hb.cell (p := ⟨xb, 0, none⟩) (Nat.lt_of_lt_of_le yl h.2.2.size)).trans h.1, (hb.cell (p := ⟨xb, 1, none⟩) (Nat.lt_of_lt_of_le yl h.2.2.size)).trans h.2.1, tr3 h.2.2 hb⟩
              have hss : Wa.drew.cell? ⟨xb, 0, none⟩ = some (.int .i64 x1) ∧ Wa.drew.cell? ⟨xb, 1, none⟩ = some (.int .i64 x2) ∧ Below Wa.heap.size Wa Wa.drew := ⟨y0, y1', below_drewN Wa 1⟩
              have hfm : fit (m : Int) := ⟨by omega, by omega⟩
              have P1 : Hid (Calls Try.prog 29 #[.string ⟨#[]⟩, .int .i64 x1, .int .i64 1] Wa.drew fun e w' => e = .returned (.string s1) ∧ Hid (w'.cell? ⟨xb, 0, none⟩ = some (.int .i64 x1) ∧ w'.cell? ⟨xb, 1, none⟩ = some (.int .i64 x2) ∧ Below Wa.heap.size Wa w')) := Lib.hid ((put1 [] x1 Wa.drew (by simp) HFX.out.1).mono (fun e w' h => ⟨by rw [hs1]; exact h.1, Lib.hid (keep _ _ hss h.2)⟩))
              have P2 : Hid (∀ W, (W.cell? ⟨xb, 0, none⟩ = some (.int .i64 x1) ∧ W.cell? ⟨xb, 1, none⟩ = some (.int .i64 x2) ∧ Below Wa.heap.size Wa W) → Calls Try.prog 29 #[.string s1, .int .i64 x2, .int .i64 1] W fun e w' => e = .returned (.string s2) ∧ Hid (w'.cell? ⟨xb, 0, none⟩ = some (.int .i64 x1) ∧ w'.cell? ⟨xb, 1, none⟩ = some (.int .i64 x2) ∧ Below Wa.heap.size Wa w')) := Lib.hid (fun W hW => by
                rw [hs1]
                exact (put1 _ x2 W (by simp) HFX.out.2).mono (fun e w' h => ⟨by rw [hs2]; exact h.1, Lib.hid (keep _ _ hW h.2)⟩))
              have P3 : Hid (∀ W, (W.cell? ⟨xb, 0, none⟩ = some (.int .i64 x1) ∧ W.cell? ⟨xb, 1, none⟩ = some (.int .i64 x2) ∧ Below Wa.heap.size Wa W) → Calls Try.prog 29 #[.string s2, .int .i64 (m : Int), .int .i64 1] W fun e w' => e = .returned (.string s3) ∧ Hid (w'.cell? ⟨xb, 0, none⟩ = some (.int .i64 x1) ∧ w'.cell? ⟨xb, 1, none⟩ = some (.int .i64 x2) ∧ Below Wa.heap.size Wa w')) := Lib.hid (fun W hW => by
                rw [hs2]
                exact (put1 _ (m : Int) W (by simp) hfm).mono (fun e w' h => ⟨by rw [hs3]; exact h.1, Lib.hid (keep _ _ hW h.2)⟩))
              have hs3t : s3 = ⟨(tri (x1, x2) m).toArray⟩ := by
                rw [hs3]
                have : by1 (m : Int) = UInt8.ofNat m := by unfold by1; simp
                rw [this]
                rfl
              have hs3s : s3.size = 3 := by rw [hs3t]; rfl
              have WS : Hid (∀ W, (W.cell? ⟨xb, 0, none⟩ = some (.int .i64 x1) ∧ W.cell? ⟨xb, 1, none⟩ = some (.int .i64 x2) ∧ Below Wa.heap.size Wa W) → Calls Try.prog 28 #[.pointer (some ⟨b, 0, none⟩), .string s3] W fun e w' => e = .returned (.tuple #[.int .i64 3, .nilIface]) ∧ Hid (IB b (acc ++ tri (x1, x2) m) w' ∧ Below w.heap.size w w') ∧ Hid (w'.cell? ⟨xb, 0, none⟩ = some (.int .i64 x1) ∧ w'.cell? ⟨xb, 1, none⟩ = some (.int .i64 x2))) := Lib.hid (fun W hW => by
                have hb1 : Below W1.heap.size W1 W := tr3 HBa.out hW.2.2
                have hib : IB b acc W := ib_below HP1.out.s hb1
                have hbs : b < W1.heap.size := by
                  rcases HP1.out.s with h | h
                  · obtain ⟨_, v, h, _⟩ := h; exact ro.lt_of h
                  · obtain ⟨_, v, h, _⟩ := h; exact ro.lt_of h
                have hxW := (hb1.block xb (ro.lt_of HX1.out)).trans HX1.out
                refine (ws_k b b (Lib.byteCells acc) s3 W hib (by rw [hs3s]; have := HACC.out; simp [Lib.byteCells]; omega) (by have := hb1.size; omega) xb _ hxW).mono ?_
                rintro e w' ⟨rfl, h1, h2, h3⟩
                refine ⟨by rw [hs3s]; rfl, Lib.hid ⟨.inr ?_, (HP1.out.bw.trans (hb1.mono HP1.out.bw.size)).trans (h2.mono HP1.out.h)⟩, Lib.hid ⟨ro.cel (h3.trans hxW) 0, ro.cel (h3.trans hxW) 1⟩⟩
                rw [hs3t, str_bytes, bytes_app] at h1
                exact h1)
              have HSW := Lib.hid hss
              have hqm : IntKind.i64.wrap (m : Int) = (m : Int) := by rw [IntKind.wrap_i64]; omega
              have hqm2 : (q : Int) - 1 = (m : Int) := by omega
              clear hs1 hs2 hs3 keep hfm hs3t hs3s x0 x1'
              go_wp2_with fail
              have hss2 : Wa.drew.cell? ⟨xb, 0, none⟩ = some (.int .i64 x1) ∧ Wa.drew.cell? ⟨xb, 1, none⟩ = some (.int .i64 x2) := ⟨hss.1, hss.2.1⟩
              go_region_held3 (fun w' => w'.cell? ⟨xb, 0, none⟩ = some (.int .i64 x1) ∧ w'.cell? ⟨xb, 1, none⟩ = some (.int .i64 x2)) (first | (with_reducible assumption) | (with_reducible exact hss2))
                (first
                  | (go_at_call 29; (with_reducible refine P1.out.mono ?_); rintro e w2 ⟨rfl, h2⟩; have t2 := h2.out; have u2 := And.intro t2.1 t2.2.1)
                  | (go_at_call 29; (with_reducible refine (P2.out _ t2).mono ?_); rintro e w3 ⟨rfl, h3⟩; have t3 := h3.out; have u3 := And.intro t3.1 t3.2.1)
                  | (go_at_call 29; (with_reducible refine (P3.out _ t3).mono ?_); rintro e w4 ⟨rfl, h4⟩; have t4 := h4.out; have u4 := And.intro t4.1 t4.2.1)
                  | (go_at_call 28; (with_reducible refine (WS.out _ t4).mono ?_); rintro e w6 ⟨rfl, h6, u6⟩; have v6 := u6.out))
              by_cases hqc : q = jc
              · have HQN := Lib.hid (show q = jn by omega)
                have HRV : Hid (RV 2 enQ w (.slice (some ⟨bb, f, none⟩) 0 0) (l'.drop q)) := Lib.hid (by
                  rw [List.drop_eq_nil_of_le (by rw [← HLL.out]; omega)]
                  exact RV.zero2 (Nat.zero_le _) (fun _ => rfl))
                clear hqn
                have HPN : Hid (PB w w6 l b (.slice (some ⟨bb, f, none⟩) 0 0) (acc ++ tri (x1, x2) m) (l'.drop q)) := Lib.hid ⟨HRV.out, by rw [List.append_assoc, ← HEQ.out, ← HP1.out.e, ← HMM.out], h6.out.1, fun x hx => HP1.out.f x (List.mem_of_mem_drop hx), h6.out.2, HP1.out.h⟩
                clear HEQ HMM HACC h6
                go_wp2_with fail
                go_roundw
                case rel => exact ⟨_, _, _, rfl, Lib.hid ⟨_, _, HPN.out⟩⟩
                case measure => simp [lenV]; omega
              · have hqcl : q < jc := by omega
                have HRV : Hid (RV 2 enQ w (.slice (some ⟨bb, f + q * 2, none⟩) (jn - q) (jc - q)) (l'.drop q)) := Lib.hid (RV.part2 HP1.out.r (by omega))
                clear hqn
                have HPN : Hid (PB w w6 l b (.slice (some ⟨bb, f + q * 2, none⟩) (jn - q) (jc - q)) (acc ++ tri (x1, x2) m) (l'.drop q)) := Lib.hid ⟨HRV.out, by rw [List.append_assoc, ← HEQ.out, ← HP1.out.e, ← HMM.out], h6.out.1, fun x hx => HP1.out.f x (List.mem_of_mem_drop hx), h6.out.2, HP1.out.h⟩
                clear HEQ HMM HACC h6
                go_wp2_with fail
                go_roundw
                case rel => exact ⟨_, _, _, rfl, Lib.hid ⟨_, _, HPN.out⟩⟩
                case measure => simp [lenV]; omega

        · obtain rfl : jn = 0 := by omega
          have hl0 : l' = [] := List.length_eq_zero_iff.1 HLL.out.symm
          rw [hl0] at hPB
          have hacc2 : acc = rpk 0 l := by have := hPB.e; simpa [rpk] using this
          rw [hacc2] at hPB
          have hbs : b < wr.heap.size := by
            rcases hPB.s with h | h
            · obtain ⟨_, v, h, _⟩ := h; exact ro.lt_of h
            · obtain ⟨_, v, h, _⟩ := h; exact ro.lt_of h
          have CS := Lib.hid (Try.Builder_String_any b b (rpk 0 l) wr hPB.s (by omega))
          have HBW := Lib.hid hPB.bw
          have HH := Lib.hid hPB.h
          clear hPB HX hl0 hacc2 hacc hbs hl1
          go_wp2_with fail
          refine CS.out.mono ?_
          rintro e w6 ⟨rfl, hb6⟩
          have HZ := Lib.hid (HE.out w6 (HBW.out.trans (hb6.mono HH.out)))
          clear hb6 CS
          go_wp2_with fail
          exact HZ.out
end Go.Proofs.Ytokkgfefiblmiaa.rp
