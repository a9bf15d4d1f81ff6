/- A strings.Builder of the call's own: bytes and strings that are written into it. -/
import Derived.Test.YtgkfnplgldigbaaGreatDoorShelf
import Derived.Test.YtgkfnplgldigbaaGreatDoorKit
import Derived.Test.YtgkfnplgldigbaaGreatDoorRow1
import Derived.Handy
import Derived.Test.YtgkfnplgldigbaaGreatDoorAsE
namespace Go.Proofs.YtgkfnplgldigbaaGreatDoor.sb
open Go.ChangeShapes Go.WideShapes Go.ChangeAt Go.RowKit
set_option linter.unusedVariables false
set_option linter.unusedSimpArgs false
theorem sizeB : (Tryz.prog.info? 44).map (·.size) = some 2 := by kernel_rfl
theorem infoByte : (Tryz.prog.info? 5).map (fun i => (i.zero, i.size, i.bytes)) = some (some (.int .u8 0), 1, 1) := by kernel_rfl
theorem liesB : liesAt Tryz.prog Tryz.prog.depth 44 (2 / Tryz.prog.cellsOf 44) 0 44 1 = true := by kernel_rfl
set_option maxRecDepth 20000 in
theorem cc_used (b : Nat) (w : World) (h0 : w.cell? ⟨b, 0, none⟩ = some (.pointer (some ⟨b, 0, none⟩))) :
    Calls Tryz.prog 35 #[.pointer (some ⟨b, 0, none⟩)] w fun e w' => e = .returned (.tuple #[]) ∧ w' = w := by
  obtain ⟨j, hj, _⟩ := Option.map_eq_some_iff.1 sizeB
  have hne : (binOp .neq 41 (.pointer (some ⟨b, 0, none⟩)) (.pointer (some ⟨b, 0, none⟩))).run Tryz.prog w = .ok (.bool false) w := Lib.run_neq_ptr_same w _ Tryz.underlying41 hj
  go_enter Tryz.func35, Tryz.ntmps35
  go_wp2_with fail
  go_end0
  exact ⟨rfl, rfl⟩
set_option maxRecDepth 20000 in
theorem cc_fresh (b : Nat) (w : World) (h0 : w.cell? ⟨b, 0, none⟩ = some (.pointer none)) (hsh : w.shape? b = some (44, 2)) (hfz : w.frozen? ⟨b, 0, none⟩ = false) :
    Calls Tryz.prog 35 #[.pointer (some ⟨b, 0, none⟩)] w fun e w' => e = .returned (.tuple #[]) ∧ w' = w.setCell ⟨b, 0, none⟩ (.pointer (some ⟨b, 0, none⟩)) := by
  obtain ⟨j, hj, hjs⟩ := Option.map_eq_some_iff.1 sizeB
  have h1 : (convert 41 76 (.pointer (some ⟨b, 0, none⟩))).run Tryz.prog w = .ok (.pointer (some ⟨b, 0, none⟩)) w := Lib.run_to_unsafe w ⟨b, 0, none⟩ Tryz.underlying41 Tryz.underlying76 hj (by rw [hjs]; decide) hsh (Nat.zero_lt_succ 1)
  have h2 : (convert 76 41 (.pointer (some ⟨b, 0, none⟩))).run Tryz.prog w = .ok (.pointer (some ⟨b, 0, none⟩)) w := Lib.run_from_unsafe w ⟨b, 0, none⟩ Tryz.underlying76 Tryz.underlying41 hj hsh liesB
  have h3 : (callFunc 48 #[.pointer (some ⟨b, 0, none⟩)]).run Tryz.prog w = .ok (.value (.pointer (some ⟨b, 0, none⟩))) w := by
    rw [run_callFunc_extern Tryz.func48 (by kernel_rfl) (by kernel_rfl) (by kernel_rfl) (e := Extern.AbiNoEscape.same) (by kernel_rfl), Lib.run_noEscape]
    rfl
  go_enter Tryz.func35, Tryz.ntmps35
  go_wp2_with fail
  go_end0
  exact ⟨rfl, rfl⟩
theorem cc_v (B b : Nat) (bs : List Value) (w : World) (h : Lib.IsBuilder 44 5 B b bs w) :
    Calls Tryz.prog 35 #[.pointer (some ⟨b, 0, none⟩)] w fun e w' => e = .returned (.tuple #[]) ∧ (Lib.BuilderAt 44 5 B b (.pointer (some ⟨b, 0, none⟩)) bs w' ∧ Below B w w') := by
  rcases h with h | h
  · refine (cc_fresh b w h.cell0 h.shape h.frozen0).mono ?_
    rintro e w' ⟨rfl, rfl⟩
    exact ⟨rfl, h.used _, (Below.refl B w).setCell (p := ⟨b, 0, none⟩) h.1 _⟩
  · refine (cc_used b w h.cell0).mono ?_
    rintro e w' ⟨rfl, rfl⟩
    exact ⟨rfl, h, Below.refl B _⟩
set_option maxRecDepth 20000 in
theorem wb_v (B b : Nat) (bs : List Value) (c : Int) (w : World) (h : Lib.IsBuilder 44 5 B b bs w) (hlen : bs.length + 1 ≤ 140737488355328) (hBw : B ≤ w.heap.size) :
    Calls Tryz.prog 16 #[.pointer (some ⟨b, 0, none⟩), .int .u8 c] w fun e w' => e = .returned .nilIface ∧ (Lib.BuilderAt 44 5 B b (.pointer (some ⟨b, 0, none⟩)) (bs ++ [.int .u8 c]) w' ∧ Below B w w') := by
  obtain ⟨i0, hi, hz0, hz1, hz2⟩ := info_parts infoByte
  go_enter Tryz.func16, Tryz.ntmps16
  go_wp2_with fail
  refine (cc_v B b bs _ h).mono ?_
  rintro e w1 ⟨rfl, h1, hb1⟩
  obtain ⟨hB, v, hbk, hown, hne⟩ := h1
  have c0 : w1.cell? ⟨b, 0, none⟩ = some (.pointer (some ⟨b, 0, none⟩)) := by rw [Lib.cell_of_heap hbk]; rfl
  have c1 : w1.cell? ⟨b, 1, none⟩ = some v := by rw [Lib.cell_of_heap hbk]; rfl
  go_wp2_with (at_builtin; refine wpList_append_own _ rfl _ _ 42 rfl B 5 i0 (.int .u8 0) 1 1 Tryz.underlying42 hi hz0 hz1 hz2 rfl (by decide) _ _ _ rfl (hown.alloc _) ⟨w1.heap.size, 0, none⟩ 1 1 [.int .u8 c] rfl rfl ?c1 ?c2 ?c3 ?c4 ?c5 ?_)
  case c1 =>
    intro j u hj
    match j, hj with
    | 0, hj => simp at hj; subst hj; simp [Addr.add]
  case c2 => intro u hu; simp at hu; subst hu; rfl
  case c3 => unfold maxLen; omega
  case c4 => omega
  case c5 => have := hb1.size; simp; omega
  intro v' w2 hown' hgrow _
  have hlt : b < w1.heap.size := (Array.getElem?_eq_some_iff.1 hbk).1
  have hb2 : w2.heap[b]? = some (.cells #[.pointer (some ⟨b, 0, none⟩), v] 44 (0, 0)) := by
    rw [hgrow.block b (by simp; omega) (fun e => hne e.symm), Lib.alloc_old w1 _ b hlt]
    exact hbk
  have d0 : w2.cell? ⟨b, 0, none⟩ = some (.pointer (some ⟨b, 0, none⟩)) := by rw [Lib.cell_of_heap hb2]; rfl
  have d1 : w2.cell? ⟨b, 1, none⟩ = some v := by rw [Lib.cell_of_heap hb2]; rfl
  have f1 : w2.frozen? ⟨b, 1, none⟩ = false := Lib.frozen_of_heap hb2 1
  obtain ⟨g, cap, rfl⟩ : ∃ g cap, v' = .slice (some ⟨g, 0, none⟩) (bs.length + 1) cap := by
    rcases hown'.2 with ⟨_, h0⟩ | ⟨g, cap, cur, hv, _⟩
    · omega
    · exact ⟨g, cap, hv⟩
  go_wp2_with fail
  go_ret
  refine ⟨rfl, ?_, ?_⟩
  · exact Lib.BuilderAt.put (T := 44) (e := 5) hB hb2 (bs' := bs ++ [.int .u8 c]) (by simpa using hown') (by decide)
  · exact ((hb1.alloc (by have := hb1.size; omega) _).grown hgrow (by have := hb1.size; simp; omega) (fun k hk => (hown.lt k hk).1)).setCell (p := ⟨b, 1, none⟩) hB _
set_option maxRecDepth 20000 in
theorem ws_v (B b : Nat) (bs : List Value) (s : ByteArray) (w : World) (h : Lib.IsBuilder 44 5 B b bs w) (hlen : bs.length + s.size ≤ 140737488355328) (hBw : B ≤ w.heap.size) :
    Calls Tryz.prog 15 #[.pointer (some ⟨b, 0, none⟩), .string s] w fun e w' => e = .returned (.tuple #[.int .i64 s.size, .nilIface]) ∧ (Lib.BuilderAt 44 5 B b (.pointer (some ⟨b, 0, none⟩)) (bs ++ Lib.strCells s) w' ∧ Below B w w') := by
  obtain ⟨i0, hi, hz0, hz1, hz2⟩ := info_parts infoByte
  go_enter Tryz.func15, Tryz.ntmps15
  go_wp2_with fail
  refine (cc_v B b bs _ h).mono ?_
  rintro e w1 ⟨rfl, h1, hb1⟩
  obtain ⟨hB, v, hbk, hown, hne⟩ := h1
  have c0 : w1.cell? ⟨b, 0, none⟩ = some (.pointer (some ⟨b, 0, none⟩)) := by rw [Lib.cell_of_heap hbk]; rfl
  have c1 : w1.cell? ⟨b, 1, none⟩ = some v := by rw [Lib.cell_of_heap hbk]; rfl
  go_wp2_with (at_builtin; refine Lib.wpList_append_own_string _ rfl _ _ 42 9 rfl B 5 i0 Tryz.underlying42 Tryz.underlying9 hi hz0 hz1 hz2 _ _ _ rfl hown s rfl ?c3 ?c4 ?c5 ?_)
  case c3 => unfold maxLen; omega
  case c4 => omega
  case c5 => have := hb1.size; omega
  intro v' w2 hown' hgrow _
  have hlt : b < w1.heap.size := (Array.getElem?_eq_some_iff.1 hbk).1
  have hb2 : w2.heap[b]? = some (.cells #[.pointer (some ⟨b, 0, none⟩), v] 44 (0, 0)) := by
    rw [hgrow.block b hlt (fun e => hne e.symm)]
    exact hbk
  have d0 : w2.cell? ⟨b, 0, none⟩ = some (.pointer (some ⟨b, 0, none⟩)) := by rw [Lib.cell_of_heap hb2]; rfl
  have d1 : w2.cell? ⟨b, 1, none⟩ = some v := by rw [Lib.cell_of_heap hb2]; rfl
  have f1 : w2.frozen? ⟨b, 1, none⟩ = false := Lib.frozen_of_heap hb2 1
  obtain ⟨ao, n', cap, rfl⟩ : ∃ ao n' cap, v' = .slice ao n' cap := by
    rcases hown'.2 with ⟨hv, _⟩ | ⟨g, cap, cur, hv, _⟩
    · exact ⟨_, _, _, hv⟩
    · exact ⟨_, _, _, hv⟩
  go_wp2_with fail
  go_ret2
  refine ⟨rfl, ?_, ?_⟩
  · exact Lib.BuilderAt.put (T := 44) (e := 5) hB hb2 (bs' := bs ++ Lib.strCells s) (by simpa [Lib.strCells_length] using hown') (by decide)
  · exact (hb1.grown hgrow (by have := hb1.size; omega) (fun k hk => (hown.lt k hk).1)).setCell (p := ⟨b, 1, none⟩) hB _
/-- a builder is as it was where all below the world's end is as it was. -/
theorem ib_below {B b : Nat} {bs : List Value} {w w' : World} (h : Lib.IsBuilder 44 5 B b bs w) (hb : Below w.heap.size w w') : Lib.IsBuilder 44 5 B b bs w' := by
  have key : ∀ p, Lib.BuilderAt 44 5 B b p bs w → Lib.BuilderAt 44 5 B b p bs w' := by
    rintro p ⟨hB, v, hbk, hown, hne⟩
    refine ⟨hB, v, (hb.block b (Array.getElem?_eq_some_iff.1 hbk).1).trans hbk, ?_, hne⟩
    obtain ⟨hl, h1 | ⟨g2, cap2, cur2, h0, h1, hh2, h3⟩⟩ := hown
    · exact ⟨hl, .inl h1⟩
    · exact ⟨hl, .inr ⟨g2, cap2, cur2, h0, h1, (hb.block g2 (Array.getElem?_eq_some_iff.1 hh2).1).trans hh2, h3⟩⟩
  rcases h with h | h
  · exact .inl (key _ h)
  · exact .inr (key _ h)
theorem str_bytes (l : List UInt8) : Lib.strCells ⟨l.toArray⟩ = Lib.byteCells l := rfl
theorem bytes_app (a b : List UInt8) : Lib.byteCells a ++ Lib.byteCells b = Lib.byteCells (a ++ b) := by simp [Lib.byteCells]
end Go.Proofs.YtgkfnplgldigbaaGreatDoor.sb
namespace Go.Proofs.YtgkfnplgldigbaaGreatDoor.asm
open Go.ChangeShapes Go.WideShapes Go.ChangeAt Go.RowKit
open Go.Proofs.YtgkfnplgldigbaaGreatDoor.st Go.Proofs.YtgkfnplgldigbaaGreatDoor.wd Go.Proofs.YtgkfnplgldigbaaGreatDoor.sb
open Go.Proofs.YtgkfnplgldigbaaGreatDoor.pr (enI recI infoI infoC PM OP own_ltP NB)
set_option linter.unusedVariables false
set_option linter.unusedSimpArgs false
abbrev IB (B b : Nat) (acc : List UInt8) (w : World) : Prop := Lib.IsBuilder 44 5 B b (Lib.byteCells acc) w
def cloT (b : Nat) : Value := .func (.func 14) #[] #[.pointer (some ⟨b, 0, none⟩)]
set_option maxRecDepth 20000 in
theorem put_v (B b : Nat) (acc l : List UInt8) (w : World) (h : IB B b acc w) (hl : acc.length + l.length + 1 ≤ 1000000) (hBw : B ≤ w.heap.size) :
    Calls Tryz.prog 14 #[.string ⟨l.toArray⟩, .pointer (some ⟨b, 0, none⟩)] w fun e w' => e = .returned (.tuple #[]) ∧ IB B b (acc ++ l ++ [10]) w' ∧ Below B w w' := by
  have hs := str_size l
  have C1 := ws_v B b (Lib.byteCells acc) ⟨l.toArray⟩ w h (by rw [Lib.byteCells_length, hs]; omega) hBw
  rw [str_bytes, bytes_app] at C1
  replace C1 := Lib.hid C1
  have C2 := Lib.hid (fun w1 (h1 : IB B b (acc ++ l) w1) (hB1 : B ≤ w1.heap.size) => wb_v B b (Lib.byteCells (acc ++ l)) 10 w1 h1 (by rw [Lib.byteCells_length, List.length_append]; omega) hB1)
  have HB := Lib.hid hBw
  clear h hBw
  go_enter Tryz.func14, Tryz.ntmps14
  go_wp2_with fail
  refine C1.out.mono ?_
  rintro e w1 ⟨rfl, h1, hb1⟩
  have C2b := Lib.hid (C2.out w1 (.inr h1) (Nat.le_trans HB.out hb1.size))
  have HB1 := Lib.hid hb1
  clear h1 hb1 C1 C2
  go_wp2_with fail
  refine C2b.out.mono ?_
  rintro e w2 ⟨rfl, h2, hb2⟩
  have H2 := Lib.hid (show IB B b (acc ++ l ++ [10]) w2 from .inr (by
    have : Lib.byteCells (acc ++ l) ++ [Value.int .u8 10] = Lib.byteCells (acc ++ l ++ [10]) := by simp [Lib.byteCells]
    rw [← this]
    exact h2))
  have HB2 := Lib.hid (HB1.out.trans hb2)
  clear h2 hb2 C2b HB1
  go_wp2_with fail
  go_end0
  exact ⟨rfl, H2.out, HB2.out⟩
theorem txt_app (P Q : List (List UInt8)) : txt (P ++ Q) = txt P ++ txt Q := by unfold txt; rw [List.map_append, List.flatten_append]
theorem txt_one (x : List UInt8) : txt [x] = x ++ [10] := by simp [txt]
theorem take_fn (L : List (List I4)) (k : Nat) (hk : k < L.length) : ((L.take (k + 1)).map fnW).flatten = ((L.take k).map fnW).flatten ++ (wFun :: (L.getD k []).map lineV) := by
  have e : L.take (k + 1) = L.take k ++ [L.getD k []] := by
    rw [List.take_succ_eq_append_getElem hk, List.getD_eq_getElem?_getD, List.getElem?_eq_getElem hk]
    rfl
  rw [e, List.map_append, List.flatten_append]
  simp only [List.map_cons, List.map_nil, List.flatten_cons, List.flatten_nil, List.append_nil]
  rfl
theorem take_ln (c : List I4) (j : Nat) (hj : j < c.length) : (c.take (j + 1)).map lineV = (c.take j).map lineV ++ [lineV (c.getD j pr.d4)] := by
  have e : c.take (j + 1) = c.take j ++ [c.getD j pr.d4] := by
    rw [List.take_succ_eq_append_getElem hj, List.getD_eq_getElem?_getD, List.getElem?_eq_getElem hj]
    rfl
  rw [e, List.map_append]
  rfl
theorem sv_two (w : World) (x y : List UInt8) : SV (w.alloc (.cells #[.string ⟨x.toArray⟩, .string ⟨y.toArray⟩] 9)) (.slice (some ⟨w.heap.size, 0, none⟩) 2 2) [x, y] :=
  SV.of_block (L := [x, y]) (heap_new w _ _) (by simp [maxLen])
set_option maxRecDepth 20000 in
set_option maxHeartbeats 1600000 in
theorem text_v (m : Int) (a : Option Addr) (n c : Nat) (L : List (List I4)) (w : World) (h : PM w (.slice a n c) L) (hN : ins.NM w) (hM : wd.NM w) :
    Calls Tryz.prog 6 #[.agg #[.int .i64 m, .slice a n c]] w fun e w' => e = .returned (.tuple #[.string ⟨(textV (m, L)).toArray⟩, .int .i64 (pr.prE m L)]) ∧ Below w.heap.size w w' := by
  obtain ⟨ec, hec⟩ : ∃ e, pr.prE m L = e := ⟨_, rfl⟩
  obtain ⟨W0, hW0⟩ : ∃ W0, w.alloc (.cells #[.int .i64 m, .slice a n c] 24) = W0 := ⟨_, rfl⟩
  have k0 : W0.heap[w.heap.size]? = some (.cells #[.int .i64 m, .slice a n c] 24 (0, 0)) := by rw [← hW0]; exact heap_new w _ _
  have b0 : Below w.heap.size w W0 := by rw [← hW0]; exact (Below.refl _ _).alloc (Nat.le_refl _) _
  have CC := pr.check_v m a n c L ec W0 (h.below b0) hec
  have x0 : W0.cell? ⟨w.heap.size, 0, none⟩ = some (.int .i64 m) := cel k0 0
  have x1 : W0.cell? ⟨w.heap.size, 1, none⟩ = some (.slice a n c) := cel k0 1
  have HW0 := Lib.hid hW0
  rw [← hW0] at CC x0 x1
  replace CC := Lib.hid CC
  have HK0 := Lib.hid k0
  have HB0 := Lib.hid b0
  have HPM := Lib.hid h
  have HN := Lib.hid hN
  have HM := Lib.hid hM
  have hnl := h.len.1
  rw [hec]
  by_cases he : ec = 0
  · subst he
    have htv : textV (m, L) = txt (wrt (m, L)) := if_pos hec
    obtain ⟨T, hT⟩ : ∃ T, textV (m, L) = T := ⟨_, rfl⟩
    rw [hT]
    have hT2 : Hid (T = txt (memL m :: (L.map fnW).flatten)) := Lib.hid (by rw [← hT, htv]; rfl)
    have hm := pr_mem hec
    have hck := pr_chk hec
    have hcn := pr.cntE_0 (pr.prE_0 hec).1
    have hln : Hid (∀ k, k < L.length → (L.getD k []).length ≤ 200) := Lib.hid fun k hk => (pr.lenE_0 (pr.fnE_0 (pr.fnR_0 (pr.prE_0 hec).2 k hk)).1).2
    have hn16 : n ≤ 16 := by omega
    have HNL := Lib.hid hnl
    have HCK := Lib.hid hck
    have CO := Lib.hid (fun w hM => wd.of_v m w (by unfold I64; omega) hM)
    have hi3 := itoa_le (v := m) 2 (by omega) (by omega)
    obtain ⟨E, hE⟩ : ∃ E, Lib.itoa m = E := ⟨_, rfl⟩
    rw [hE] at CO hi3
    have hml : memL m = Lib.join [wMem, E] [32] := by unfold memL; rw [hE]
    have hmll : (memL m).length ≤ 12 := by
      rw [hml, join_two, Lib.join_one, List.length_append, List.length_append, List.length_singleton]
      have h2 : wMem.length = 6 := rfl
      omega
    have CJ := Lib.hid (fun w1 => wjoin_v _ [wMem, E] (w1.alloc (.cells #[.string ⟨wMem.toArray⟩, .string ⟨E.toArray⟩] 9)) (sv_two w1 wMem E) (by simp) (by rw [← hml]; omega))
    rw [← hml] at CJ
    obtain ⟨ML, hML⟩ : ∃ ML, memL m = ML := ⟨_, rfl⟩
    rw [hML] at CJ hT2 hmll
    rw [show wMem = [109, 101, 109, 111, 114, 121] from rfl] at CJ
    clear hN hM h b0 k0 hW0 hec hck hcn hT htv hml hE hML hm hnl
    go_enter Tryz.func6, Tryz.ntmps6
    go_wp2_with fail
    refine CC.out.mono ?_
    rw [HW0.out]
    rintro e w1 ⟨rfl, hb1⟩
    obtain ⟨B, hB⟩ : ∃ B, w1.heap.size = B := ⟨_, rfl⟩
    obtain ⟨W1, hW1⟩ : ∃ W1, w1.alloc (.cells #[.pointer none, .slice none 0 0] 44) = W1 := ⟨_, rfl⟩
    have ib1 : IB B B [] W1 := by rw [← hW1, ← hB]; exact Lib.fresh_isBuilder _ _ w1
    have b1 : Below w1.heap.size w1 W1 := by rw [← hW1]; exact (Below.refl _ _).alloc (Nat.le_refl _) _
    have hs1 : W1.heap.size = B + 1 := by rw [← hW1, ← hB]; simp
    have hk1 := kb HK0.out (tr3 hb1 b1)
    have y0 : W1.cell? ⟨w.heap.size, 0, none⟩ = some (.int .i64 m) := cel hk1 0
    rw [← hW1] at y0
    have HB1 := Lib.hid (tr3 HB0.out (tr3 hb1 b1))
    have HWB := Lib.hid (tr3 HB0.out hb1)
    have HBB := Lib.hid hB
    have HIB := Lib.hid ib1
    have HW1 := Lib.hid hW1
    have HK1 := Lib.hid hk1
    have hwB : w.heap.size < B := by rw [← hB]; exact (Array.getElem?_eq_some_iff.1 (kb HK0.out hb1)).1
    have HS1 := Lib.hid hs1
    clear hb1 ib1 b1 hs1 hk1 hW1 hB x0 x1 CC HK0 HB0 HW0
    go_wp2_with fail
    rw [HW1.out, HBB.out]
    refine (CO.out _ (HM.out.below HB1.out)).mono ?_
    rintro e w2 ⟨rfl, hb2⟩
    have hib2 := ib_below HIB.out hb2
    have hb2' : Below B W1 w2 := hb2.mono (by rw [HS1.out]; omega)
    have HIB2 := Lib.hid hib2
    have HB2 := Lib.hid hb2'
    clear hb2 hib2 hb2' CO HIB y0
    go_wp2_with fail
    refine (CJ.out w2).mono ?_
    rintro e w3 ⟨rfl, hb3⟩
    have hb3' : Below w2.heap.size w2 w3 := tr3 (show Below w2.heap.size w2 (w2.alloc (.cells #[.string ⟨wMem.toArray⟩, .string ⟨E.toArray⟩] 9)) by go_grown) hb3
    have hB2s : B ≤ w2.heap.size := Nat.le_trans (by rw [HS1.out]; omega) HB2.out.size
    have HB3 := Lib.hid (HB2.out.trans (hb3'.mono hB2s))
    have C3 := Lib.hid (put_v B B [] ML w3 (ib_below HIB2.out hb3') (by simp; omega) (Nat.le_trans hB2s hb3'.size))
    clear hb3 hb3' CJ HIB2 HB2 hB2s
    go_wp2_with fail
    refine C3.out.mono ?_
    rintro e w4 ⟨rfl, h4, hb4⟩
    have HB4 := Lib.hid (HB3.out.trans hb4)
    have hk4 := ((HB4.out).block w.heap.size hwB).trans HK1.out
    have z1 : w4.cell? ⟨w.heap.size, 1, none⟩ = some (.slice a n c) := cel hk4 1
    have HI4 : Hid (IB B B (txt (ML :: ((L.take 0).map fnW).flatten)) w4) := Lib.hid (by simpa [txt] using h4)
    have hacc0 : (txt (ML :: ((L.take 0).map fnW).flatten)).length ≤ 13 + 2613 * 0 := by simp [txt]; omega
    clear h4 hb4 C3 HB3 hk4
    go_wp2_with fail
    go_loopw [27] (fun iv wr => ∃ (k : Nat) (acc : List UInt8), iv = .int .i64 (k : Int) ∧ k ≤ n ∧ acc.length ≤ 13 + 2613 * k ∧ Hid (acc = txt (ML :: ((L.take k).map fnW).flatten)) ∧ Hid (IB B B acc wr) ∧ Hid (Below B W1 wr)) (fun iv _ => n - (RowKit.intOf iv).toNat)
    case atStart => exact ⟨0, _, rfl, by omega, hacc0, Lib.hid rfl, HI4, HB4⟩
    case round =>
      clear hacc0 HI4 HB4 z1
      obtain ⟨k, acc, rfl, hk, hal, HAC, HI, HB⟩ := hrel
      by_cases hlt : k < n
      · have hki : (k : Int) < (n : Int) := by omega
        have hkd : decide ((k : Int) < (n : Int)) = true := decide_eq_true hki
        have HBw := Lib.hid (HB1.out.trans (HB.out.mono (Nat.le_of_lt hwB)))
        obtain ⟨b', o, ai, ci, rfl, hbl, hz0, hrow0⟩ := HPM.out.row k hlt
        have hz := kc hz0 HBw.out
        have hb' : b' < wr.heap.size := Nat.lt_of_lt_of_le hbl HBw.out.size
        have hkl : k < L.length := by rw [← HNL.out]; exact hlt
        have hl2 := hln.out k hkl
        have htk := take_fn L k hkl
        have hck := fun j (hj : j < (L.getD k []).length) => HCK.out (L.getD k []) (by rw [List.getD_eq_getElem?_getD, List.getElem?_eq_getElem hkl]; exact List.getElem_mem hkl) ((L.getD k []).getD j pr.d4) (by rw [List.getD_eq_getElem?_getD (l := L.getD k []), List.getElem?_eq_getElem hj]; exact List.getElem_mem hj)
        obtain ⟨cl, hcl⟩ : ∃ cl, L.getD k [] = cl := ⟨_, rfl⟩
        rw [hcl] at hz hrow0 hl2 htk hck
        have htl := take_ln cl
        obtain ⟨q, hq⟩ : ∃ q, cl.length = q := ⟨_, rfl⟩
        rw [hq] at hz hrow0 hl2 hck htl
        have HROW := Lib.hid hrow0
        have HTK := Lib.hid htk
        have HTL := Lib.hid htl
        have HQ := Lib.hid hq
        have HCJ := Lib.hid hck
        have hBs : B ≤ wr.heap.size := Nat.le_trans (by rw [HS1.out]; omega) HB.out.size
        have C5 := Lib.hid (put_v B B acc [102, 117, 110, 99, 116, 105, 111, 110] wr HI.out (by simp; omega) hBs)
        clear hz0 hrow0 htk htl hck hcl hq hkl
        go_wp2_with fail
        refine C5.out.mono ?_
        rintro e w5 ⟨rfl, h5, hb5⟩
        have HB5 := Lib.hid (HB.out.trans hb5)
        have HI5 := Lib.hid h5
        have hal5 : (acc ++ [102, 117, 110, 99, 116, 105, 111, 110] ++ [10]).length ≤ 26 + 2613 * k + 13 * 0 := by simp; omega
        have HA5 : Hid (acc ++ [102, 117, 110, 99, 116, 105, 111, 110] ++ [10] = acc ++ txt (wFun :: (cl.take 0).map lineV)) := Lib.hid (by simp [txt, wFun])
        clear h5 hb5 C5 HI HB HBw hz hBs
        go_wp2_with fail
        go_loopw [35] (fun iv wr2 => ∃ (j : Nat) (acc2 : List UInt8), iv = .int .i64 (j : Int) ∧ j ≤ q ∧ acc2.length ≤ 26 + 2613 * k + 13 * j ∧ Hid (acc2 = acc ++ txt (wFun :: (cl.take j).map lineV)) ∧ Hid (IB B B acc2 wr2) ∧ Hid (Below B W1 wr2)) (fun iv _ => q - (RowKit.intOf iv).toNat)
        case atStart => exact ⟨0, _, rfl, by omega, hal5, HA5, HI5, HB5⟩
        case round =>
          clear hal5 HA5 HI5 HB5
          obtain ⟨j, acc2, rfl, hj, hal2, HA, HI2, HBB2⟩ := hrel
          by_cases hjl : j < q
          · have hji : (j : Int) < (q : Int) := by omega
            have hjd : decide ((j : Int) < (q : Int)) = true := decide_eq_true hji
            have HBx := Lib.hid (HB1.out.trans (HBB2.out.mono (Nat.le_of_lt hwB)))
            obtain ⟨b2, o2, rfl, hb2, d0, d1, d2, d3⟩ := pr.RV.four (HROW.out.below HBx.out) j hjl
            have hcx := HCJ.out j hjl
            have htj := HTL.out j hjl
            obtain ⟨⟨x0, x1, x2, x3⟩, hx⟩ : ∃ x, cl.getD j pr.d4 = x := ⟨_, rfl⟩
            rw [hx] at d0 d1 d2 d3 hcx htj
            dsimp only at d0 d1 d2 d3
            obtain ⟨i1, i2, i3⟩ := chk_64 hcx
            have hll := line_len hcx
            have CL := Lib.hid (fun w hN hM => line_v x0 x1 x2 x3 w i1 i2 i3 hN hM)
            obtain ⟨U, hU⟩ : ∃ U, lineV (x0, x1, x2, x3) = U := ⟨_, rfl⟩
            rw [hU] at CL hll htj
            obtain ⟨W2, hW2⟩ : ∃ W2, wr.alloc (.cells #[.int .i64 x0, .int .i64 x1, .int .i64 x2, .int .i64 x3] 35) = W2 := ⟨_, rfl⟩
            have k2 : W2.heap[wr.heap.size]? = some (.cells #[.int .i64 x0, .int .i64 x1, .int .i64 x2, .int .i64 x3] 35 (0, 0)) := by rw [← hW2]; exact heap_new wr _ _
            have hb8 : Below wr.heap.size wr W2 := by rw [← hW2]; exact (Below.refl _ _).alloc (Nat.le_refl _) _
            have hBs : B ≤ wr.heap.size := Nat.le_trans (by rw [HS1.out]; omega) HBB2.out.size
            have HB8 := Lib.hid (HBB2.out.trans (hb8.mono hBs))
            have HI8 := Lib.hid (ib_below HI2.out hb8)
            have CLW := CL.out W2 (HN.out.below (HB1.out.trans (HB8.out.mono (Nat.le_of_lt hwB)))) (HM.out.below (HB1.out.trans (HB8.out.mono (Nat.le_of_lt hwB))))
            have HBs8 := Lib.hid (Nat.le_trans hBs hb8.size)
            rw [← hW2] at CLW
            replace CLW := Lib.hid CLW
            have HW2 := Lib.hid hW2
            have HTJ := Lib.hid htj
            clear hx hcx i1 i2 i3 hU k2 hb8 hW2 htj CL HI2 HBB2 HBx hBs
            go_wp2_with fail
            refine CLW.out.mono ?_
            rw [HW2.out]
            rintro e w9 ⟨rfl, hb9⟩
            have C9 := Lib.hid (put_v B B acc2 U w9 (ib_below HI8.out hb9) (by omega) (Nat.le_trans HBs8.out hb9.size))
            have HB9 := Lib.hid (HB8.out.trans (hb9.mono HBs8.out))
            clear hb9 CLW HW2 HI8 HB8 HBs8 d0 d1 d2 d3
            go_wp2_with fail
            refine C9.out.mono ?_
            rintro e w10 ⟨rfl, h10, hb10⟩
            have HB10 := Lib.hid (HB9.out.trans hb10)
            have HI10 := Lib.hid h10
            have hal10 : (acc2 ++ U ++ [10]).length ≤ 26 + 2613 * k + 13 * (j + 1) := by simp; omega
            have HA10 : Hid (acc2 ++ U ++ [10] = acc ++ txt (wFun :: (cl.take (j + 1)).map lineV)) := Lib.hid (by
              rw [HA.out, HTJ.out, ← List.cons_append, txt_app, txt_one]
              simp)
            clear h10 hb10 C9 HB9 HA HTJ
            go_wp2_with fail
            go_roundw
            case rel => exact ⟨j + 1, _, by go_num, by omega, hal10, HA10, HI10, HB10⟩
            case measure => first | (simp [RowKit.intOf]; done) | (simp [RowKit.intOf]; omega)
          · obtain rfl : j = q := by omega
            have hji : ¬ (j : Int) < (j : Int) := by omega
            have hjd : decide ((j : Int) < (j : Int)) = false := decide_eq_false hji
            have hfull : cl.take j = cl := List.take_of_length_le (by rw [HQ.out]; exact Nat.le_refl _)
            have HA10 : Hid (acc2 = txt (ML :: ((L.take (k + 1)).map fnW).flatten)) := Lib.hid (by
              rw [HA.out, hfull, HTK.out, HAC.out, ← List.cons_append, txt_app])
            have hal10 : acc2.length ≤ 13 + 2613 * (k + 1) := by omega
            clear hfull HA
            go_wp2_with fail
            go_roundw
            case rel => exact ⟨k + 1, acc2, by go_num, by omega, hal10, HA10, HI2, HBB2⟩
            case measure => first | (simp [RowKit.intOf]; done) | (simp [RowKit.intOf]; omega)
      · obtain rfl : k = n := by omega
        have hki : ¬ (k : Int) < (k : Int) := by omega
        have hkd : decide ((k : Int) < (k : Int)) = false := decide_eq_false hki
        have hacT : acc = T := by
          rw [HAC.out, hT2.out, List.take_of_length_le (by rw [← HNL.out]; exact Nat.le_refl _)]
        subst hacT
        have CS := Lib.hid (Tryz.Builder_String_any B B acc wr HI.out (Nat.le_trans (by rw [HS1.out]; omega) HB.out.size))
        clear HI HAC
        go_wp2_with fail
        refine CS.out.mono ?_
        rintro e w5 ⟨rfl, hb5⟩
        have HB5 := Lib.hid (HB1.out.trans ((HB.out.trans hb5).mono (Nat.le_of_lt hwB)))
        clear hb5 CS
        go_wp2_with fail
        go_ret2
        exact ⟨rfl, HB5.out⟩
  · have htv : textV (m, L) = [] := if_neg (by rw [hec]; exact he)
    rw [htv]
    have hcb : ((ec : Int) != 0) = true := by rw [bne, beq_eq_false_iff_ne.2 he]; rfl
    clear hN hM h b0 k0 hW0 hec htv hnl
    go_enter Tryz.func6, Tryz.ntmps6
    go_wp2_with fail
    refine CC.out.mono ?_
    rw [HW0.out]
    rintro e w1 ⟨rfl, hb1⟩
    have HB1 := Lib.hid (tr3 HB0.out hb1)
    clear hb1 x0 x1
    go_wp2_with fail
    go_ret2
    exact ⟨rfl, HB1.out⟩
end Go.Proofs.YtgkfnplgldigbaaGreatDoor.asm
