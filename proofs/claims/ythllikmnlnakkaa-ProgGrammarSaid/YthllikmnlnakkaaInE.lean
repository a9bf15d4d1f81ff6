/- The instruction that bytes are (layer 3). -/
import Derived.Test.YthllikmnlnakkaaInD
namespace Go.Proofs.Ythllikmnlnakkaa.ins
open Go.ChangeShapes Go.WideShapes Go.ChangeAt Go.RowKit
open Go.Proofs.Ythllikmnlnakkaa.bin Go.Proofs.Ythllikmnlnakkaa.bits
set_option linter.unusedVariables false
set_option linter.unusedSimpArgs false
def valB (c : UInt8) (l : List UInt8) : Int := if c = 110 then sgV (ofB l) 2 else (ofB l : Int)
def readL : List UInt8 → List UInt8 → Int × List Int × List UInt8
  | [], r => (0, [], r)
  | c :: f, r => if okL c (valB c (r.take (wd c))) then ((readL f (r.drop (wd c))).1, valB c (r.take (wd c)) :: (readL f (r.drop (wd c))).2.1, (readL f (r.drop (wd c))).2.2) else (3, [], r)
def sumW : List UInt8 → Nat
  | [] => 0
  | c :: f => wd c + sumW f
theorem sumW_frm : ∀ n : Nat, sumW (frm n) ≤ 3 := by
  intro n
  unfold frm
  split <;> decide
theorem sumW_frmI (op : Int) : sumW (frmI op) ≤ 3 := by
  unfold frmI
  split
  · exact sumW_frm _
  · decide
/-- what is wrong with bytes -/
def getE (l : List UInt8) : Int :=
  if l.length < 4 then 1 else if 4 < l.length then 2
  else if 25 < (l.getD 0 0).toNat then 5
  else if (readL (frm (l.getD 0 0).toNat) (l.drop 1)).1 ≠ 0 then 3
  else if (readL (frm (l.getD 0 0).toNat) (l.drop 1)).2.2.all (· == 0) then 0 else 4
/-- what they are, where nothing is wrong -/
def getV (l : List UInt8) (i : Nat) : Int := if getE l = 0 then (if i = 0 then ((l.getD 0 0).toNat : Int) else (readL (frm (l.getD 0 0).toNat) (l.drop 1)).2.1.getD (i - 1) 0) else 0
theorem set_blk (w : World) (b i : Nat) (v : Value) {cs : Array Value} {e : TypeId} (h : w.heap[b]? = some (.cells cs e (0, 0))) : (w.setCell ⟨b, i, none⟩ v).heap[b]? = some (.cells (cs.set! i v) e (0, 0)) := by
  obtain ⟨hlt, hk⟩ := Array.getElem?_eq_some_iff.1 h
  show (w.heap.modify b _)[b]? = _
  rw [Array.getElem?_eq_getElem (by rw [Array.size_modify]; exact hlt), Array.getElem_modify_self, hk]
  rfl
theorem set_oth (w : World) (b i j : Nat) (v : Value) (h : j ≠ b) : (w.setCell ⟨b, i, none⟩ v).heap[j]? = w.heap[j]? := by
  show (w.heap.modify b _)[j]? = _
  rw [Array.getElem?_modify]
  simp [Ne.symm h]
theorem set_size (w : World) (b i : Nat) (v : Value) : (w.setCell ⟨b, i, none⟩ v).heap.size = w.heap.size := by
  show (w.heap.modify b _).size = _
  simp
def row3 (vs : List Int) : Array Value := #[.int .i64 (vs.getD 0 0), .int .i64 (vs.getD 1 0), .int .i64 (vs.getD 2 0)]
theorem row3_set (vs : List Int) (n : Int) (h : vs.length < 3) : (row3 vs).set! vs.length (.int .i64 n) = row3 (vs ++ [n]) := by
  match vs, h with
  | [], _ => rfl
  | [a], _ => rfl
  | [a, b], _ => rfl
set_option maxRecDepth 20000 in
theorem pget_short (l : List UInt8) (w : World) (h : l.length < 4) : Calls Try.prog 26 #[.string ⟨l.toArray⟩] w fun e w' => e = .returned (.tuple #[.agg #[.int .i64 0, .int .i64 0, .int .i64 0, .int .i64 0], .int .i64 1]) ∧ Below w.heap.size w w' := by
  have hs := str_size l
  have hI : (l.length : Int) < 4 := by omega
  go_enter Try.func26, Try.ntmps26
  go_wp2_with fail
  exact bodyPost_ret (v := .tuple #[.agg #[.int .i64 0, .int .i64 0, .int .i64 0, .int .i64 0], .int .i64 1]) (by simp [results, Try.results26, go_sem]) rfl ⟨rfl, by go_grown⟩
set_option maxRecDepth 20000 in
theorem pget_long (l : List UInt8) (w : World) (h : 4 < l.length) : Calls Try.prog 26 #[.string ⟨l.toArray⟩] w fun e w' => e = .returned (.tuple #[.agg #[.int .i64 0, .int .i64 0, .int .i64 0, .int .i64 0], .int .i64 2]) ∧ Below w.heap.size w w' := by
  have hs := str_size l
  have hI : ¬ (l.length : Int) < 4 := by omega
  have hI2 : (4 : Int) < l.length := by omega
  go_enter Try.func26, Try.ntmps26
  go_wp2_with fail
  exact bodyPost_ret (v := .tuple #[.agg #[.int .i64 0, .int .i64 0, .int .i64 0, .int .i64 0], .int .i64 2]) (by simp [results, Try.results26, go_sem]) rfl ⟨rfl, by go_grown⟩
theorem str_drop (r : List UInt8) (h : Nat) : (⟨r.toArray⟩ : ByteArray).extract h (⟨r.toArray⟩ : ByteArray).size = ⟨(r.drop h).toArray⟩ := by
  rw [str_size, ByteArray.ext_iff, ByteArray.data_extract]
  apply Array.ext'
  rw [Array.toList_extract, List.extract_eq_take_drop]
  show List.take (r.length - h) (List.drop h r) = r.drop h
  exact List.take_of_length_le (by rw [List.length_drop]; omega)
theorem num_l (C : Nat) (r : List UInt8) (k : Int) (h : Nat) (w : World) (hC : CutAt w C ⟨r.toArray⟩ false) (hh : hz k = h) (hs : h ≤ r.length) (hm : r.length ≤ 1000000) : Calls Try.prog 42 #[.pointer (some ⟨C, 0, none⟩), .int .i64 k] w fun e w' => e = .returned (.int .i64 (ofB (r.take h))) ∧ w' = w.setCell ⟨C, 0, none⟩ (.string ⟨(r.drop h).toArray⟩) := by
  have hb := hz_bd k
  rw [hh] at hb
  have := num_ok C ⟨r.toArray⟩ k h w hC (Lib.hid hh) hb.1 hb.2 (by rw [str_size]; exact hs) (by rw [str_size]; exact hm)
  refine this.mono fun e w' ⟨h1, _, h3⟩ => ⟨h1, ?_⟩
  rw [h3, str_drop]
/-- What is there while an instruction is read: the result, the cut, the fields, the letters. -/
structure GS (w : World) (FB : Nat) (wr : World) (f : List UInt8) (pos : Nat) (vs : List Int) (r : List UInt8) : Prop where
  rb : wr.heap[w.heap.size]? = some (.cells #[.int .i64 0, .int .i64 0, .int .i64 0, .int .i64 0] 40 (0, 0))
  cb : wr.heap[w.heap.size + 1]? = some (.cells #[.string ⟨r.toArray⟩, .bool false] 69 (0, 0))
  fb : wr.heap[FB]? = some (.cells (row3 vs) 54 (0, 0))
  it : wr.heap[FB + 1]? = some (.stringIter ⟨f.toArray⟩ pos)
  b : Below w.heap.size w wr
  lt : w.heap.size + 1 < FB
theorem GS.next {w wr : World} {FB : Nat} {f : List UInt8} {pos : Nat} {vs : List Int} {r : List UInt8} (h : GS w FB wr f pos vs r) (p : Nat) : GS w FB (wr.iterAt (FB + 1) ⟨f.toArray⟩ p) f p vs r :=
  have hl := h.lt
  ⟨(Lib.iterAt_other _ _ _ _ _ (by omega)).trans h.rb, (Lib.iterAt_other _ _ _ _ _ (by omega)).trans h.cb, (Lib.iterAt_other _ _ _ _ _ (by omega)).trans h.fb, Lib.iterAt_heap _ _ _ pos _ h.it, Lib.below_iterAt h.b (by omega) _ _, hl⟩
theorem GS.cut {w wr : World} {FB : Nat} {f : List UInt8} {pos : Nat} {vs : List Int} {r : List UInt8} (h : GS w FB wr f pos vs r) (r' : List UInt8) : GS w FB (wr.setCell ⟨w.heap.size + 1, 0, none⟩ (.string ⟨r'.toArray⟩)) f pos vs r' :=
  have hl := h.lt
  ⟨(set_oth _ _ _ _ _ (by omega)).trans h.rb, set_blk _ _ _ _ h.cb, (set_oth _ _ _ _ _ (by omega)).trans h.fb, (set_oth _ _ _ _ _ (by omega)).trans h.it, h.b.setCell (p := ⟨w.heap.size + 1, 0, none⟩) (by show w.heap.size ≤ w.heap.size + 1; omega) _, hl⟩
theorem GS.fld {w wr : World} {FB : Nat} {f : List UInt8} {pos : Nat} {vs : List Int} {r : List UInt8} (h : GS w FB wr f pos vs r) (i : Nat) (n : Int) (hi : i = vs.length) (h3 : i < 3) : GS w FB (wr.setCell ⟨FB, i, none⟩ (.int .i64 n)) f pos (vs ++ [n]) r := by
  subst hi
  have hl := h.lt
  refine ⟨(set_oth _ _ _ _ _ (by omega)).trans h.rb, (set_oth _ _ _ _ _ (by omega)).trans h.cb, ?_, (set_oth _ _ _ _ _ (by omega)).trans h.it, h.b.setCell (p := ⟨FB, vs.length, none⟩) (by show w.heap.size ≤ FB; omega) _, hl⟩
  rw [← row3_set vs n h3]
  exact set_blk _ _ _ _ h.fb
theorem row3_cell {w : World} {g : Nat} {vs : List Int} {e : Nat} (h : w.heap[g]? = some (.cells (row3 vs) e (0, 0))) (i : Nat) (hi : i < 3) : w.cell? ⟨g, i, none⟩ = some (.int .i64 (vs.getD i 0)) ∧ w.frozen? ⟨g, i, none⟩ = false := by
  constructor
  · match i, hi with
    | 0, _ => simp [World.cell?, h, row3]
    | 1, _ => simp [World.cell?, h, row3]
    | 2, _ => simp [World.cell?, h, row3]
  · simp [World.frozen?, h]
def GV (l : List UInt8) : Value := .tuple #[.agg #[.int .i64 (getV l 0), .int .i64 (getV l 1), .int .i64 (getV l 2), .int .i64 (getV l 3)], .int .i64 (getE l)]
def gz (e : Int) : Value := .tuple #[.agg #[.int .i64 0, .int .i64 0, .int .i64 0, .int .i64 0], .int .i64 e]
theorem gv_bad (l : List UInt8) (e : Int) (h : getE l = e) (he : e ≠ 0) : GV l = gz e := by
  have : ∀ i, getV l i = 0 := fun i => by unfold getV; rw [if_neg (by omega)]
  unfold GV gz
  rw [this, this, this, this, h]
theorem getE_cons (b : UInt8) (rest : List UInt8) (hr : rest.length = 3) : getE (b :: rest) = if 25 < b.toNat then 5 else if (readL (frm b.toNat) rest).1 ≠ 0 then 3 else if (readL (frm b.toNat) rest).2.2.all (· == 0) = true then 0 else 4 := by
  have h4 : (b :: rest).length = 4 := by simp [hr]
  unfold getE
  simp only [h4, List.getD_cons_zero, List.drop_succ_cons, List.drop_zero]
  rw [if_neg (by decide), if_neg (by decide)]
theorem ge_five (b : UInt8) (rest : List UInt8) (hr : rest.length = 3) (h : 25 < b.toNat) : getE (b :: rest) = 5 := by
  rw [getE_cons b rest hr, if_pos h]
theorem ge_three (b : UInt8) (rest : List UInt8) (hr : rest.length = 3) (h : ¬ 25 < b.toNat) (hT : (readL (frm b.toNat) rest).1 ≠ 0) : getE (b :: rest) = 3 := by
  rw [getE_cons b rest hr, if_neg h, if_pos hT]
theorem ge_four (b : UInt8) (rest : List UInt8) (hr : rest.length = 3) (h : ¬ 25 < b.toNat) (hT : (readL (frm b.toNat) rest).1 = 0) (hz : (readL (frm b.toNat) rest).2.2.all (· == 0) = false) : getE (b :: rest) = 4 := by
  rw [getE_cons b rest hr, if_neg h, if_neg (by rw [hT]; decide), if_neg (by rw [hz]; decide)]
theorem gv_good (b : UInt8) (rest : List UInt8) (vs : List Int) (hr : rest.length = 3) (h : ¬ 25 < b.toNat) (hT : (readL (frm b.toNat) rest).1 = 0) (hz : (readL (frm b.toNat) rest).2.2.all (· == 0) = true) (hv : (readL (frm b.toNat) rest).2.1 = vs) : GV (b :: rest) = .tuple #[.agg #[.int .i64 (b.toNat : Int), .int .i64 (vs.getD 0 0), .int .i64 (vs.getD 1 0), .int .i64 (vs.getD 2 0)], .int .i64 0] := by
  have hE : getE (b :: rest) = 0 := by rw [getE_cons b rest hr, if_neg h, if_neg (by rw [hT]; decide), if_pos hz]
  have hV : ∀ i, getV (b :: rest) i = if i = 0 then (b.toNat : Int) else vs.getD (i - 1) 0 := fun i => by
    unfold getV
    rw [if_pos hE]
    simp only [List.getD_cons_zero, List.drop_succ_cons, List.drop_zero]
    rw [hv]
  unfold GV
  rw [hV, hV, hV, hV, hE]
  rfl
theorem ofB_one (b : UInt8) : (ofB [b] : Int) = (b.toNat : Int) := by simp [ofB]
theorem frm_nat (n : Nat) : frmI (n : Int) = frm n := by unfold frmI; rw [if_pos (by omega)]; rfl
theorem valB_n (l : List UInt8) : valB 110 l = sgV (ofB l) 2 := by unfold valB; rw [if_pos rfl]
theorem valB_o (x : UInt8) (l : List UInt8) (h : x ≠ 110) : valB x l = (ofB l : Int) := by unfold valB; rw [if_neg h]
theorem frz {w : World} {g : Nat} {cs : Array Value} {e : TypeId} (h : w.heap[g]? = some (.cells cs e (0, 0))) (i : Nat) : w.frozen? ⟨g, i, none⟩ = false := by simp [World.frozen?, h]
theorem cel {w : World} {g : Nat} {cs : Array Value} {e : TypeId} (h : w.heap[g]? = some (.cells cs e (0, 0))) (i : Nat) : w.cell? ⟨g, i, none⟩ = cs[i]? := by simp [World.cell?, h]
theorem res_ins {fn : Func} {A : Array Value} {W : World} {g : Nat} {a b c d e : Value} {T : TypeId} (hfn : fn.results = #[.cell 2 40, .tmp 3]) (h2 : A.getD 2 undef = .pointer (some ⟨g, 0, none⟩)) (h3 : A.getD 3 undef = e) (hF : W.heap[g]? = some (.cells #[a, b, c, d] T (0, 0))) :
    (results fn A).run Try.prog W = .ok (.tuple #[.agg #[a, b, c, d], e]) W := by
  rw [Array.getD_eq_getD_getElem?] at h2 h3
  have c0 : W.cell? ⟨g, 0, none⟩ = some a := cel hF 0
  have c1 : W.cell? ⟨g, 1, none⟩ = some b := cel hF 1
  have c2 : W.cell? ⟨g, 2, none⟩ = some c := cel hF 2
  have c3 : W.cell? ⟨g, 3, none⟩ = some d := cel hF 3
  simp [results, hfn, h2, h3, go_sem, c0, c1, c2, c3]
def st4 (w : World) (g : Nat) (a b c d : Value) : World := (((w.setCell ⟨g, 0, none⟩ a).setCell ⟨g, 1, none⟩ b).setCell ⟨g, 2, none⟩ c).setCell ⟨g, 3, none⟩ d
theorem st4_blk {w : World} {g : Nat} {a b c d a' b' c' d' : Value} {e : TypeId} (h : w.heap[g]? = some (.cells #[a, b, c, d] e (0, 0))) : (st4 w g a' b' c' d').heap[g]? = some (.cells #[a', b', c', d'] e (0, 0)) := by
  have h0 := set_blk w g 0 a' h
  have h1 := set_blk _ g 1 b' h0
  have h2 := set_blk _ g 2 c' h1
  exact set_blk _ g 3 d' h2
theorem st4_below {w0 w : World} {B g : Nat} (h : Below B w0 w) (hg : B ≤ g) (a b c d : Value) : Below B w0 (st4 w g a b c d) :=
  (((h.setCell (p := ⟨g, 0, none⟩) hg _).setCell (p := ⟨g, 1, none⟩) hg _).setCell (p := ⟨g, 2, none⟩) hg _).setCell (p := ⟨g, 3, none⟩) hg _
set_option maxRecDepth 20000 in
set_option maxHeartbeats 4000000 in
theorem pget_v (b : UInt8) (rest : List UInt8) (w : World) (hr : rest.length = 3) :
    Calls Try.prog 26 #[.string ⟨(b :: rest).toArray⟩] w fun e w' => e = .returned (GV (b :: rest)) ∧ Below w.heap.size w w' := by
  have hs := str_size (b :: rest)
  have hl4 : (b :: rest).length = 4 := by simp [hr]
  rw [hl4] at hs
  have HG5 := Lib.hid (fun h => gv_bad _ _ (ge_five b rest hr h) (by decide))
  have HG3 := Lib.hid (fun h h2 => gv_bad _ _ (ge_three b rest hr h h2) (by decide))
  have HG4 := Lib.hid (fun h h2 h3 => gv_bad _ _ (ge_four b rest hr h h2 h3) (by decide))
  have HG0 := Lib.hid (fun vs h h2 h3 h4 => gv_good b rest vs hr h h2 h3 h4)
  have hRes : ∀ e : Int, gz e = .tuple #[.agg #[.int .i64 0, .int .i64 0, .int .i64 0, .int .i64 0], .int .i64 e] := fun e => rfl
  have HRS := Lib.hid hRes
  obtain ⟨V, hV⟩ : ∃ V, GV (b :: rest) = V := ⟨_, rfl⟩
  rw [hV] at HG5 HG3 HG4 HG0
  have CN := Lib.hid (fun w h => num_l (w.heap.size + 1) (b :: rest) 1 1 w h rfl (by rw [hl4]; omega) (by rw [hl4]; omega))
  rw [hV]
  obtain ⟨l, hl⟩ : ∃ l, b :: rest = l := ⟨_, rfl⟩
  have CNum := Lib.hid (fun (C : Nat) (w : World) (h : CutAt w C ⟨l.toArray⟩ false) => num_l C l 1 1 w h rfl (by rw [← hl, hl4]; omega) (by rw [← hl, hl4]; omega))
  have ht1 : l.take 1 = [b] := by rw [← hl]; rfl
  have hd1 : l.drop 1 = rest := by rw [← hl]; rfl
  rw [ht1, hd1, ofB_one] at CNum
  rw [hl] at hs ⊢
  have hbl := b.toNat_lt
  clear CN hV hRes hl hl4 ht1 hd1
  have hz0 : (w.alloc (.cells #[.int .i64 0, .int .i64 0, .int .i64 0, .int .i64 0] 40)).heap.size = w.heap.size + 1 := by simp
  have CW := Lib.hid (fun w => new_v ⟨l.toArray⟩ w)
  have key : ∀ w2, CutAt w2 (w.heap.size + 1) ⟨l.toArray⟩ false → Below (w.alloc (.cells #[.int .i64 0, .int .i64 0, .int .i64 0, .int .i64 0] 40)).heap.size (w.alloc (.cells #[.int .i64 0, .int .i64 0, .int .i64 0, .int .i64 0] 40)) w2 → Hid (Calls Try.prog 42 #[.pointer (some ⟨w.heap.size + 1, 0, none⟩), .int .i64 1] w2 fun e w' => e = .returned (.int .i64 (b.toNat : Int)) ∧ ∃ wn, w' = wn ∧ wn.heap[w.heap.size]? = some (.cells #[.int .i64 0, .int .i64 0, .int .i64 0, .int .i64 0] 40 (0, 0)) ∧ wn.heap[w.heap.size + 1]? = some (.cells #[.string ⟨rest.toArray⟩, .bool false] 69 (0, 0)) ∧ w.heap.size + 1 < wn.heap.size ∧ Below w.heap.size w wn) := by
    intro w2 hC hb
    have hr0 : w2.heap[w.heap.size]? = some (.cells #[.int .i64 0, .int .i64 0, .int .i64 0, .int .i64 0] 40 (0, 0)) := kb (heap_new w _ _) hb
    have hB := tr3 (show Below w.heap.size w (w.alloc (.cells #[.int .i64 0, .int .i64 0, .int .i64 0, .int .i64 0] 40)) by go_grown) hb
    have hlt := hC.lt
    refine Lib.hid ((CNum.out _ w2 hC).mono fun e w' ⟨h1, h2⟩ => ⟨h1, w', rfl, ?_, ?_, ?_, ?_⟩)
    · rw [h2, set_oth _ _ _ _ _ (by omega)]; exact hr0
    · rw [h2]; exact set_blk _ _ _ _ hC
    · rw [h2, set_size]; exact hlt
    · rw [h2]; exact hB.setCell (p := ⟨w.heap.size + 1, 0, none⟩) (by show w.heap.size ≤ w.heap.size + 1; omega) _
  have KEY := Lib.hid key
  have HZ0 := Lib.hid hz0
  clear key CNum hz0
  by_cases h25 : 25 < b.toNat
  · have CK := Lib.hid (fun w => known_v (b.toNat : Int) false (by simp; omega) w)
    have hV := HG5.out h25
    rw [HRS.out] at hV
    subst hV
    clear HG3 HG4 HG0 HG5
    go_enter Try.func26, Try.ntmps26
    go_wp2_with fail
    refine (CW.out _).mono ?_
    rintro e w2 ⟨rfl, hC, hb2⟩
    rw [HZ0.out] at hC ⊢
    have C1 := KEY.out w2 hC hb2
    clear hb2 hC
    go_wp2_with fail
    refine C1.out.mono ?_
    rintro e w3 ⟨rfl, wn, rfl, hr0, hc0, hlt, hB⟩
    have c0 : w3.cell? ⟨w.heap.size, 0, none⟩ = some (.int .i64 0) := cel hr0 0
    have c1 : w3.cell? ⟨w.heap.size, 1, none⟩ = some (.int .i64 0) := cel hr0 1
    have c2 : w3.cell? ⟨w.heap.size, 2, none⟩ = some (.int .i64 0) := cel hr0 2
    have c3 : w3.cell? ⟨w.heap.size, 3, none⟩ = some (.int .i64 0) := cel hr0 3
    have f0 : w3.frozen? ⟨w.heap.size, 0, none⟩ = false := frz hr0 0
    have f1 : w3.frozen? ⟨w.heap.size, 1, none⟩ = false := frz hr0 1
    have f2 : w3.frozen? ⟨w.heap.size, 2, none⟩ = false := frz hr0 2
    have f3 : w3.frozen? ⟨w.heap.size, 3, none⟩ = false := frz hr0 3
    have hlt0 : w.heap.size < w3.heap.size := (Array.getElem?_eq_some_iff.1 hr0).1
    have HR0 := Lib.hid hr0
    have HB := Lib.hid hB
    clear hB hc0
    go_wp2_with (first | (go_at_call 43; (refine (CK.out _).mono ?_); rintro e w' ⟨rfl, rfl⟩))
    exact bodyPost_ret (res_ins Try.results26 rfl rfl (st4_blk (a' := .int .i64 0) (b' := .int .i64 0) (c' := .int .i64 0) (d' := .int .i64 0) HR0.out)) rfl ⟨rfl, st4_below HB.out (Nat.le_refl _) _ _ _ _⟩
  · have CK := Lib.hid (fun w => known_v (b.toNat : Int) true (by simp; omega) w)
    obtain ⟨f, hf⟩ : ∃ f, frm b.toNat = f := ⟨_, rfl⟩
    have hfo := frm_ok b.toNat
    have hsw := sumW_frm b.toNat
    have CF := pf_of (b.toNat : Int)
    rw [frm_nat] at CF
    rw [hf] at hfo hsw CF HG3 HG4 HG0
    obtain ⟨hl3, hL0⟩ := hfo
    have hL := Lib.hid hL0
    replace CF := Lib.hid CF
    have hfs := str_size f
    replace HG3 := Lib.hid (HG3.out h25)
    replace HG4 := Lib.hid (HG4.out h25)
    replace HG0 := Lib.hid (fun vs => HG0.out vs h25)
    clear HG5 hf hL0
    obtain ⟨T, hT⟩ : ∃ T, readL f rest = T := ⟨_, rfl⟩
    rw [hT] at HG3 HG4 HG0
    have hT0 : Hid (T = ((readL (f.drop 0) rest).1, ([] : List Int) ++ (readL (f.drop 0) rest).2.1, (readL (f.drop 0) rest).2.2)) := Lib.hid (by simp [hT])
    clear hT
    go_enter Try.func26, Try.ntmps26
    go_wp2_with fail
    refine (CW.out _).mono ?_
    rintro e w2 ⟨rfl, hC, hb2⟩
    rw [HZ0.out] at hC ⊢
    have C1 := KEY.out w2 hC hb2
    clear hb2 hC
    go_wp2_with fail
    refine C1.out.mono ?_
    rintro e w3 ⟨rfl, wn, rfl, hr0, hc0, hlt, hB⟩
    have HR0 := Lib.hid hr0
    have HC0 := Lib.hid hc0
    have HB := Lib.hid hB
    clear hr0 hc0 hB C1 KEY CW HZ0
    go_wp2_with (first | (go_at_call 43; (refine (CK.out _).mono ?_); rintro e w' ⟨rfl, rfl⟩) | (go_at_call 36; (refine (CF.out _).mono ?_); rintro e w' ⟨rfl, rfl⟩))
    obtain ⟨FB, hFB⟩ : ∃ FB, w3.heap.size = FB := ⟨_, rfl⟩
    obtain ⟨W, hW⟩ : ∃ W, (w3.alloc (.cells #[.int .i64 0, .int .i64 0, .int .i64 0] 54)).iter ⟨f.toArray⟩ 0 = W := ⟨_, rfl⟩
    have hgs : GS w FB W f 0 [] rest := by
      have hsz : (w3.alloc (.cells #[.int .i64 0, .int .i64 0, .int .i64 0] 54)).heap.size = FB + 1 := by rw [← hFB]; simp
      have hbb : Below w3.heap.size w3 W := by rw [← hW]; unfold World.iter; go_grown
      refine ⟨kb HR0.out hbb, kb HC0.out hbb, ?_, ?_, tr3 HB.out hbb, by rw [← hFB]; exact hlt⟩
      · rw [← hW, ← hFB]
        exact kb (heap_new w3 _ _) (by unfold World.iter; exact (Below.refl _ _).alloc (Nat.le_refl _) _)
      · rw [← hW, ← hsz]
        exact World.iter_heap _ _ _
    have HGS := Lib.hid hgs
    rw [hW, hFB]
    have hr3 : Hid (rest.length = 3) := Lib.hid hr
    clear hgs hW hFB HR0 HC0 HB hlt CK CF
    go_loopw [8] (fun _ wr => ∃ (pos : Nat) (vs : List Int) (r : List UInt8), pos ≤ f.length ∧ vs.length = pos ∧ sumW (f.drop pos) ≤ r.length ∧ r.length ≤ 3 ∧ Hid (GS w FB wr f pos vs r) ∧ Hid (T = ((readL (f.drop pos) r).1, vs ++ (readL (f.drop pos) r).2.1, (readL (f.drop pos) r).2.2))) (fun _ wr => f.length - wr.iterPos (FB + 1))
    case atStart => exact ⟨0, [], rest, by omega, rfl, by simpa [hr] using hsw, by omega, HGS, hT0⟩
    case round =>
      clear HGS hT0
      obtain ⟨pos, vs, r, hpl, hvl, hsr, hr33, HGS, HT⟩ := hrel
      by_cases hlt : pos < f.length
      · have hps : pos < (⟨f.toArray⟩ : ByteArray).size := by rw [hfs]; exact hlt
        have hxL : Lt (f.getD pos 0) := getD_Lt hL.out hlt
        have hat := str_at f pos hps
        have hd : f.drop pos = f.getD pos 0 :: f.drop (pos + 1) := drop_at f 0 pos hlt
        obtain ⟨x, hx⟩ : ∃ x, f.getD pos 0 = x := ⟨_, rfl⟩
        rw [hx] at hxL hat hd
        rw [hd, sumW] at hsr
        have HIT := Lib.hid HGS.out.it
        obtain ⟨W2, hW2⟩ : ∃ W2, wr.iterAt (FB + 1) ⟨f.toArray⟩ (pos + 1) = W2 := ⟨_, rfl⟩
        have hg2 := HGS.out.next (pos + 1)
        rw [hW2] at hg2
        have hnx : ∀ ty, (Instr.next (.pointer (some ⟨FB + 1, 0, none⟩)) true ty).run Try.prog wr = .ok (.tuple #[.bool true, .int .i64 pos, .int .i32 (x.toNat : Int)]) W2 := fun ty => by
          rw [← hat, ← hW2]
          exact Lib.run_next_ascii_at (P := Try.prog) wr (FB + 1) ⟨f.toArray⟩ pos ty HGS.out.it hps (by rw [hat]; exact lt_128 x hxL)
        have hplI : (pos : Int) < (f.length : Int) := by omega
        have hp3 : (pos : Int) < 3 := by omega
        have hwd := wd_pos x
        have CWd := Lib.hid (fun w => width_v x hxL w)
        have CNm := num_l (w.heap.size + 1) r ((wd x : Nat) : Int) (wd x) W2 hg2.cb (wd_hz x) (by omega) (by omega)
        have HGC := hg2.cut (r.drop (wd x))
        obtain ⟨wn, hwn⟩ : ∃ wn, W2.setCell ⟨w.heap.size + 1, 0, none⟩ (.string ⟨(r.drop (wd x)).toArray⟩) = wn := ⟨_, rfl⟩
        rw [hwn] at CNm HGC
        have HGS2 := Lib.hid HGC
        obtain ⟨m, hm⟩ : ∃ m, ((ofB (r.take (wd x)) : Nat) : Int) = m := ⟨_, rfl⟩
        rw [hm] at CNm
        replace CNm : Hid (Calls Try.prog 42 #[.pointer (some ⟨w.heap.size + 1, 0, none⟩), .int .i64 ((wd x : Nat) : Int)] W2 fun e w' => e = .returned (.int .i64 m) ∧ wn = w') := Lib.hid (CNm.mono fun e w' h => ⟨h.1, h.2.symm⟩)
        obtain ⟨n, hn⟩ : ∃ n, valB x (r.take (wd x)) = n := ⟨_, rfl⟩
        have hrd : readL (f.drop pos) r = if okL x n then ((readL (f.drop (pos + 1)) (r.drop (wd x))).1, n :: (readL (f.drop (pos + 1)) (r.drop (wd x))).2.1, (readL (f.drop (pos + 1)) (r.drop (wd x))).2.2) else (3, [], r) := by rw [hd, readL, hn]
        have HR1 : Hid (okL x n = false → T.1 = 3) := Lib.hid fun h => by rw [HT.out, hrd, h]; rfl
        have HR2 : Hid (okL x n = true → T = ((readL (f.drop (pos + 1)) (r.drop (wd x))).1, (vs ++ [n]) ++ (readL (f.drop (pos + 1)) (r.drop (wd x))).2.1, (readL (f.drop (pos + 1)) (r.drop (wd x))).2.2)) := Lib.hid fun h => by rw [HT.out, hrd, h, List.append_assoc]; rfl
        have CWi := Lib.hid (fun b hb w => within_v x hxL n b hb w)
        have hxt : ∀ y : UInt8, ((x.toNat : Int) == (y.toNat : Int)) = decide (x = y) := fun y => by
          by_cases e : x = y
          · subst e; simp
          · have : ¬ x.toNat = y.toNat := fun h => e (UInt8.toNat_inj.1 h)
            simp [e]; omega
        clear hx hd hg2 hW2 HGC hrd HT HGS
        by_cases hx : x = 110
        · have CSg := Lib.hid (fun w => signed_any m ((wd x : Nat) : Int) w)
          have hsv : sgV m (hz ((wd x : Nat) : Int)) = n := by rw [← hn, hx, valB_n, ← hm, hx]; rfl
          rw [hsv] at CSg
          have hx1 : ((x.toNat : Int) == 110) = true := by rw [hx]; rfl
          clear hn hm hsv hxt hx
          cases hok : okL x n with
          | false =>
            have hT1 : T.1 ≠ 0 := by rw [HR1.out hok]; decide
            have hV := HG3.out hT1
            rw [HRS.out] at hV
            subst hV
            have hr0 := HGS2.out.rb
            have HBX := Lib.hid HGS2.out.b
            clear HG3 HG4 HG0 HR1 HR2
            have c0 : wn.cell? ⟨w.heap.size, 0, none⟩ = some (.int .i64 0) := cel hr0 0
            have c1 : wn.cell? ⟨w.heap.size, 1, none⟩ = some (.int .i64 0) := cel hr0 1
            have c2 : wn.cell? ⟨w.heap.size, 2, none⟩ = some (.int .i64 0) := cel hr0 2
            have c3 : wn.cell? ⟨w.heap.size, 3, none⟩ = some (.int .i64 0) := cel hr0 3
            have f0 : wn.frozen? ⟨w.heap.size, 0, none⟩ = false := frz hr0 0
            have f1 : wn.frozen? ⟨w.heap.size, 1, none⟩ = false := frz hr0 1
            have f2 : wn.frozen? ⟨w.heap.size, 2, none⟩ = false := frz hr0 2
            have f3 : wn.frozen? ⟨w.heap.size, 3, none⟩ = false := frz hr0 3
            have hlt0 : w.heap.size < wn.heap.size := (Array.getElem?_eq_some_iff.1 hr0).1
            have HR0 := Lib.hid hr0
            go_wp2_with (first | (go_at_call 42; (with_reducible refine CNm.out.mono ?_); rintro e w' ⟨rfl, rfl⟩) | (go_at_call 44; (with_reducible refine (CSg.out _).mono ?_); rintro e w' ⟨rfl, rfl⟩) | (go_at_call 37; (with_reducible refine (CWd.out _).mono ?_); rintro e w' ⟨rfl, rfl⟩) | (go_at_call 45; (with_reducible refine (CWi.out false hok _).mono ?_); rintro e w' ⟨rfl, rfl⟩))
            exact bodyPost_ret (res_ins Try.results26 rfl rfl (st4_blk (a' := .int .i64 0) (b' := .int .i64 0) (c' := .int .i64 0) (d' := .int .i64 0) HR0.out)) rfl ⟨rfl, st4_below HBX.out (Nat.le_refl _) _ _ _ _⟩
          | true =>
            have HT1 := Lib.hid (HR2.out hok)
            have hfx := row3_cell HGS2.out.fb pos (by omega)
            have hfx1 := hfx.1
            have hfx2 := hfx.2
            have hbf : FB < wn.heap.size := (Array.getElem?_eq_some_iff.1 HGS2.out.fb).1
            have HGS3 := Lib.hid (HGS2.out.fld pos n hvl.symm (by omega))
            clear hfx HR1 HR2
            go_wp2_with (first | (go_at_call 42; (with_reducible refine CNm.out.mono ?_); rintro e w' ⟨rfl, rfl⟩) | (go_at_call 44; (with_reducible refine (CSg.out _).mono ?_); rintro e w' ⟨rfl, rfl⟩) | (go_at_call 37; (with_reducible refine (CWd.out _).mono ?_); rintro e w' ⟨rfl, rfl⟩) | (go_at_call 45; (with_reducible refine (CWi.out true hok _).mono ?_); rintro e w' ⟨rfl, rfl⟩))
            have hip : wr.iterPos (FB + 1) = pos := by unfold World.iterPos; rw [HIT.out]
            have hip2 : (wn.setCell ⟨FB, pos, none⟩ (.int .i64 n)).iterPos (FB + 1) = pos + 1 := by unfold World.iterPos; rw [HGS3.out.it]
            go_roundw
            case rel => exact ⟨pos + 1, vs ++ [n], r.drop (wd x), by omega, by rw [List.length_append, hvl]; rfl, by rw [List.length_drop]; omega, by rw [List.length_drop]; omega, HGS3, HT1⟩
            case measure => omega
        · have hnm : m = n := by rw [← hn, valB_o x _ hx, hm]
          subst hnm
          have hx1 : ((x.toNat : Int) == 110) = false := by
            have := hxt 110
            rw [show ((110 : UInt8).toNat : Int) = 110 from rfl] at this
            rw [this]; simp [hx]
          clear hn hm hxt
          cases hok : okL x m with
          | false =>
            have hT1 : T.1 ≠ 0 := by rw [HR1.out hok]; decide
            have hV := HG3.out hT1
            rw [HRS.out] at hV
            subst hV
            have hr0 := HGS2.out.rb
            have HBX := Lib.hid HGS2.out.b
            clear HG3 HG4 HG0 HR1 HR2
            have c0 : wn.cell? ⟨w.heap.size, 0, none⟩ = some (.int .i64 0) := cel hr0 0
            have c1 : wn.cell? ⟨w.heap.size, 1, none⟩ = some (.int .i64 0) := cel hr0 1
            have c2 : wn.cell? ⟨w.heap.size, 2, none⟩ = some (.int .i64 0) := cel hr0 2
            have c3 : wn.cell? ⟨w.heap.size, 3, none⟩ = some (.int .i64 0) := cel hr0 3
            have f0 : wn.frozen? ⟨w.heap.size, 0, none⟩ = false := frz hr0 0
            have f1 : wn.frozen? ⟨w.heap.size, 1, none⟩ = false := frz hr0 1
            have f2 : wn.frozen? ⟨w.heap.size, 2, none⟩ = false := frz hr0 2
            have f3 : wn.frozen? ⟨w.heap.size, 3, none⟩ = false := frz hr0 3
            have hlt0 : w.heap.size < wn.heap.size := (Array.getElem?_eq_some_iff.1 hr0).1
            have HR0 := Lib.hid hr0
            go_wp2_with (first | (go_at_call 42; (with_reducible refine CNm.out.mono ?_); rintro e w' ⟨rfl, rfl⟩) | (go_at_call 37; (with_reducible refine (CWd.out _).mono ?_); rintro e w' ⟨rfl, rfl⟩) | (go_at_call 45; (with_reducible refine (CWi.out false hok _).mono ?_); rintro e w' ⟨rfl, rfl⟩))
            exact bodyPost_ret (res_ins Try.results26 rfl rfl (st4_blk (a' := .int .i64 0) (b' := .int .i64 0) (c' := .int .i64 0) (d' := .int .i64 0) HR0.out)) rfl ⟨rfl, st4_below HBX.out (Nat.le_refl _) _ _ _ _⟩
          | true =>
            have HT1 := Lib.hid (HR2.out hok)
            have hfx := row3_cell HGS2.out.fb pos (by omega)
            have hfx1 := hfx.1
            have hfx2 := hfx.2
            have hbf : FB < wn.heap.size := (Array.getElem?_eq_some_iff.1 HGS2.out.fb).1
            have HGS3 := Lib.hid (HGS2.out.fld pos m hvl.symm (by omega))
            clear hfx HR1 HR2
            go_wp2_with (first | (go_at_call 42; (with_reducible refine CNm.out.mono ?_); rintro e w' ⟨rfl, rfl⟩) | (go_at_call 37; (with_reducible refine (CWd.out _).mono ?_); rintro e w' ⟨rfl, rfl⟩) | (go_at_call 45; (with_reducible refine (CWi.out true hok _).mono ?_); rintro e w' ⟨rfl, rfl⟩))
            have hip : wr.iterPos (FB + 1) = pos := by unfold World.iterPos; rw [HIT.out]
            have hip2 : (wn.setCell ⟨FB, pos, none⟩ (.int .i64 m)).iterPos (FB + 1) = pos + 1 := by unfold World.iterPos; rw [HGS3.out.it]
            go_roundw
            case rel => exact ⟨pos + 1, vs ++ [m], r.drop (wd x), by omega, by rw [List.length_append, hvl]; rfl, by rw [List.length_drop]; omega, by rw [List.length_drop]; omega, HGS3, HT1⟩
            case measure => omega
      · obtain rfl : pos = f.length := by omega
        have hnx : ∀ ty, (Instr.next (.pointer (some ⟨FB + 1, 0, none⟩)) true ty).run Try.prog wr = .ok (.tuple #[.bool false]) wr := fun ty => Lib.run_next_end_at (P := Try.prog) wr (FB + 1) ⟨f.toArray⟩ f.length ty HGS.out.it (by rw [hfs]; omega)
        have hTT : T = (0, vs, r) := by have := HT.out; rw [List.drop_length] at this; simpa [readL] using this
        have hA : Hid (r.all (· == 0) = T.2.2.all (· == 0)) := Lib.hid (by rw [hTT])
        have HG0' := Lib.hid (fun hz => HG0.out vs (by rw [hTT]) hz (by rw [hTT]))
        have HG4' := Lib.hid (fun hz => HG4.out (by rw [hTT]) hz)
        obtain ⟨za, hza⟩ : ∃ z, T.2.2.all (· == 0) = z := ⟨_, rfl⟩
        rw [hza] at hA HG0' HG4'
        have HGS0 := HGS
        clear hTT HT HG0 HG3 HG4 hza HGS
        go_wp2_with fail
        go_loopw [62] (fun _ wr => ∃ (r : List UInt8), r.length ≤ 3 ∧ Hid (GS w FB wr f f.length vs r) ∧ Hid (r.all (· == 0) = za)) (fun _ wr => match wr.cell? ⟨w.heap.size + 1, 0, none⟩ with | some (.string b) => b.size | _ => 0)
        case atStart => exact ⟨r, hr33, HGS0, hA⟩
        case round =>
          clear HGS0 hA
          obtain ⟨r2, hr2, HGS, HA⟩ := hrel
          have hcb : CutAt wr (w.heap.size + 1) ⟨r2.toArray⟩ false := HGS.out.cb
          have CL := Lib.hid (left_v (w.heap.size + 1) ⟨r2.toArray⟩ false wr hcb)
          rw [str_size] at CL
          cases r2 with
          | nil =>
            have hz1 : za = true := by rw [← HA.out]; rfl
            have hV := HG0'.out hz1
            have hrf := HGS.out.fb
            have g0 := (row3_cell hrf 0 (by omega)).1
            have g1 := (row3_cell hrf 1 (by omega)).1
            have g2 := (row3_cell hrf 2 (by omega)).1
            have hbf : FB < wr.heap.size := (Array.getElem?_eq_some_iff.1 hrf).1
            have hr0 := HGS.out.rb
            have HBX := Lib.hid HGS.out.b
            have c0 : wr.cell? ⟨w.heap.size, 0, none⟩ = some (.int .i64 0) := cel hr0 0
            have c1 : wr.cell? ⟨w.heap.size, 1, none⟩ = some (.int .i64 0) := cel hr0 1
            have c2 : wr.cell? ⟨w.heap.size, 2, none⟩ = some (.int .i64 0) := cel hr0 2
            have c3 : wr.cell? ⟨w.heap.size, 3, none⟩ = some (.int .i64 0) := cel hr0 3
            have f0 : wr.frozen? ⟨w.heap.size, 0, none⟩ = false := frz hr0 0
            have f1 : wr.frozen? ⟨w.heap.size, 1, none⟩ = false := frz hr0 1
            have f2 : wr.frozen? ⟨w.heap.size, 2, none⟩ = false := frz hr0 2
            have f3 : wr.frozen? ⟨w.heap.size, 3, none⟩ = false := frz hr0 3
            have hlt0 : w.heap.size < wr.heap.size := (Array.getElem?_eq_some_iff.1 hr0).1
            have HR0 := Lib.hid hr0
            obtain ⟨a0, ha0⟩ : ∃ a, vs.getD 0 0 = a := ⟨_, rfl⟩
            obtain ⟨a1, ha1⟩ : ∃ a, vs.getD 1 0 = a := ⟨_, rfl⟩
            obtain ⟨a2, ha2⟩ : ∃ a, vs.getD 2 0 = a := ⟨_, rfl⟩
            rw [ha0] at g0
            rw [ha1] at g1
            rw [ha2] at g2
            rw [ha0, ha1, ha2] at hV
            subst hV
            have hll : (([] : List UInt8).length : Int) = 0 := rfl
            rw [hll] at CL
            clear HG4' HG0' ha0 ha1 ha2 hrf HA HGS hr0 hll
            go_wp2_with (go_at_call 46; (with_reducible refine CL.out.mono ?_); rintro e w' ⟨rfl, rfl⟩)
            exact bodyPost_ret (res_ins Try.results26 rfl rfl (st4_blk (a' := .int .i64 (b.toNat : Int)) (b' := .int .i64 a0) (c' := .int .i64 a1) (d' := .int .i64 a2) HR0.out)) rfl ⟨rfl, st4_below HBX.out (Nat.le_refl _) _ _ _ _⟩
          | cons y r3 =>
            have hyl := y.toNat_lt
            have CNm := num_l (w.heap.size + 1) (y :: r3) 1 1 wr hcb rfl (by simp) (by omega)
            have HGC := Lib.hid (HGS.out.cut r3)
            have hllI : (0 : Int) < (((y :: r3).length : Nat) : Int) := by rw [List.length_cons]; omega
            rw [show (y :: r3).take 1 = [y] from rfl, show (y :: r3).drop 1 = r3 from rfl, ofB_one] at CNm
            replace CNm := Lib.hid CNm
            have hcell0 : wr.cell? ⟨w.heap.size + 1, 0, none⟩ = some (.string ⟨(y :: r3).toArray⟩) := cel HGS.out.cb 0
            have hcell1 : (wr.setCell ⟨w.heap.size + 1, 0, none⟩ (.string ⟨r3.toArray⟩)).cell? ⟨w.heap.size + 1, 0, none⟩ = some (.string ⟨r3.toArray⟩) := cel HGC.out.cb 0
            obtain ⟨ll, hll⟩ : ∃ ll, (((y :: r3).length : Nat) : Int) = ll := ⟨_, rfl⟩
            rw [hll] at CL hllI
            have HC0 := Lib.hid hcell0
            have HC1 := Lib.hid hcell1
            clear hll hcb hcell0 hcell1
            by_cases hy : y = 0
            · subst hy
              have HA1 : Hid (r3.all (· == 0) = za) := Lib.hid (by rw [← HA.out]; rfl)
              have hl3' : r3.length ≤ 3 := by rw [List.length_cons] at hr2; omega
              replace CNm : Hid (Calls Try.prog 42 #[.pointer (some ⟨w.heap.size + 1, 0, none⟩), .int .i64 1] wr fun e w' => e = .returned (.int .i64 0) ∧ w' = wr.setCell ⟨w.heap.size + 1, 0, none⟩ (.string ⟨r3.toArray⟩)) := CNm
              clear HGS HA
              go_wp2_with (first | (go_at_call 46; (with_reducible refine CL.out.mono ?_); rintro e w' ⟨rfl, rfl⟩) | (go_at_call 42; (with_reducible refine CNm.out.mono ?_); rintro e w' ⟨rfl, rfl⟩))
              go_roundw
              case rel => exact ⟨r3, hl3', HGC, HA1⟩
              case measure => rw [HC0.out, HC1.out]; simp [str_size]
            · have hyn : ¬ (y.toNat : Int) = 0 := by
                intro h
                apply hy
                have : y.toNat = 0 := by omega
                exact UInt8.toNat_inj.1 this
              have hyb : ((y.toNat : Int) == 0) = false := by simpa using hyn
              have hyc : ((y.toNat : Int) != 0) = true := by simpa using hyn
              have hz0 : za = false := by rw [← HA.out]; simp [hy]
              have hV := HG4'.out hz0
              rw [HRS.out] at hV
              subst hV
              have hr0 := HGC.out.rb
              have HBX := Lib.hid HGC.out.b
              obtain ⟨wn, hwn⟩ : ∃ wn, wr.setCell ⟨w.heap.size + 1, 0, none⟩ (.string ⟨r3.toArray⟩) = wn := ⟨_, rfl⟩
              rw [hwn] at CNm hr0 HBX
              replace CNm : Hid (Calls Try.prog 42 #[.pointer (some ⟨w.heap.size + 1, 0, none⟩), .int .i64 1] wr fun e w' => e = .returned (.int .i64 (y.toNat : Int)) ∧ wn = w') := Lib.hid (CNm.out.mono fun e w' h => ⟨h.1, h.2.symm⟩)
              have c0 : wn.cell? ⟨w.heap.size, 0, none⟩ = some (.int .i64 0) := cel hr0 0
              have c1 : wn.cell? ⟨w.heap.size, 1, none⟩ = some (.int .i64 0) := cel hr0 1
              have c2 : wn.cell? ⟨w.heap.size, 2, none⟩ = some (.int .i64 0) := cel hr0 2
              have c3 : wn.cell? ⟨w.heap.size, 3, none⟩ = some (.int .i64 0) := cel hr0 3
              have f0 : wn.frozen? ⟨w.heap.size, 0, none⟩ = false := frz hr0 0
              have f1 : wn.frozen? ⟨w.heap.size, 1, none⟩ = false := frz hr0 1
              have f2 : wn.frozen? ⟨w.heap.size, 2, none⟩ = false := frz hr0 2
              have f3 : wn.frozen? ⟨w.heap.size, 3, none⟩ = false := frz hr0 3
              have hlt0 : w.heap.size < wn.heap.size := (Array.getElem?_eq_some_iff.1 hr0).1
              have HR0 := Lib.hid hr0
              clear HG4' HG0' HA HGS HGC hr0 hwn HC0 HC1 hyn
              go_wp2_with (first | (go_at_call 46; (with_reducible refine CL.out.mono ?_); rintro e w' ⟨rfl, rfl⟩) | (go_at_call 42; (with_reducible refine CNm.out.mono ?_); rintro e w' ⟨rfl, rfl⟩))
              exact bodyPost_ret (res_ins Try.results26 rfl rfl (st4_blk (a' := .int .i64 0) (b' := .int .i64 0) (c' := .int .i64 0) (d' := .int .i64 0) HR0.out)) rfl ⟨rfl, st4_below HBX.out (Nat.le_refl _) _ _ _ _⟩
end Go.Proofs.Ythllikmnlnakkaa.ins
