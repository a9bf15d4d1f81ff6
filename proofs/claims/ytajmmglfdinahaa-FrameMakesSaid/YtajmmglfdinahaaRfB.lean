/- The document's arena: a number is taken (layer 10). -/
import Derived.Test.YtajmmglfdinahaaRfA
namespace Go.Proofs.Ytajmmglfdinahaa.rf
open Go.ChangeShapes Go.WideShapes Go.ChangeAt Go.RowKit Go.Proofs.Ytajmmglfdinahaa.mo
set_option linter.unusedVariables false
set_option linter.unusedSimpArgs false
/-- What a step of the reference leaves. -/
def RPost (N : Nat) (w : World) (m fr pk : Int) (vb vt : Value) (bk tk : List Int) (r : Value) (e : Ending) (w' : World) : Prop :=
  e = .returned r ∧ ∃ vb' vt', RS N w' m fr pk vb' vt' bk tk ∧ KN N w w' ∧ Below N w w' ∧ (∀ k, vb'.ownBlock = some k → vb.ownBlock = some k ∨ w.heap.size ≤ k) ∧ (∀ k, vt'.ownBlock = some k → vt.ownBlock = some k ∨ w.heap.size ≤ k)
theorem take_no (N : Nat) (m pk : Int) (vb vt : Value) (tk : List Int) (w : World) (h : RS N w m m pk vb vt [] tk) :
    Calls Try.prog 15 #[.pointer (some ⟨N, 0, none⟩)] w (RPost N w m m pk vb vt [] tk (.tuple #[.int .i64 0, .bool false])) := by
  obtain ⟨c0, c1, c2, c3, c4, cf⟩ := h.cells
  obtain ⟨ab, cb, rfl, _⟩ := h.b
  have H := Lib.hid h
  clear h cf
  simp only [List.length_nil] at c1
  go_enter Try.func15, Try.ntmps15
  go_wp2_with fail
  go_quiet (fail)
  go_wp2_with fail
  go_ret2
  have hb : Below w.heap.size w (w.drewN nq) := below_drewN (Below.refl _ _) nq
  exact ⟨rfl, _, _, H.out.below hb, KN.below hb, hb.mono (Nat.le_of_lt H.out.ltN), fun k e => .inl e, fun k e => .inl e⟩
theorem view_cut {w : World} {a : Option Addr} {n cap : Nat} {l : List Int} {x : Int} (h : View w (.slice a n cap) (l ++ [x])) : View w (.slice a l.length cap) l := by
  obtain ⟨a', c', e, hm, hn, hc⟩ := h
  rw [Value.slice.injEq] at e
  obtain ⟨rfl, _, rfl⟩ := e
  have hl : (l ++ [x]).length = l.length + 1 := by simp
  refine ⟨a, cap, rfl, ⟨by omega, hm.2⟩, (fun e => by have := (hn e).1; omega), fun _ => ?_⟩
  obtain ⟨b, off, ha, hlt, hle, hcc⟩ := hc (by simp)
  refine ⟨b, off, ha, hlt, by omega, fun i hi => ?_⟩
  rw [hcc i (by omega), List.getD_eq_getElem?_getD, List.getElem?_append_left hi, ← List.getD_eq_getElem?_getD]
set_option maxRecDepth 20000 in
set_option maxHeartbeats 1000000 in
theorem take_back (N : Nat) (m fr pk pk' : Int) (vb vt : Value) (l tk : List Int) (x : Int) (w : World) (h : RS N w m fr pk vb vt (l ++ [x]) tk) (hl : l.length ≤ 2000) (ht : tk.length ≤ 2000) (hp : max pk ((tk.length + 1 : Nat) : Int) = pk') :
    Calls Try.prog 15 #[.pointer (some ⟨N, 0, none⟩)] w (RPost N w m fr pk' vb vt l (tk ++ [x]) (.tuple #[.int .i64 x, .bool true])) := by
  obtain ⟨c0, c1, c2, c3, c4, cf⟩ := h.cells
  have hNl := h.ltN
  rcases h.b.cases with ⟨e, _⟩ | ⟨_, b, off, cap, rfl, hcap, hbl, _, hc⟩
  · simp at e
  have cx := hc l.length (by simp)
  rw [List.getD_eq_getElem?_getD, List.getElem?_append_right (Nat.le_refl _)] at cx
  simp only [Nat.sub_self, List.getElem?_cons_zero, Option.getD_some] at cx
  have hHP := Lib.hid hp
  have hv' := view_cut h.b
  have H := Lib.hid h
  have HV := Lib.hid hv'
  rw [List.length_append, List.length_singleton] at c1 hcap
  clear h hv' hc hp cf c2 c3 c4
  generalize hk : l.length = k at *
  have hn0 : ((k + 1 : Nat) : Int) - 1 = (k : Int) := by omega
  have hn1 : (k : Int) + 1 - 1 = (k : Int) := by omega
  have hn3 : (k : Int) ≤ (cap : Int) := by omega
  have hn4 : (0 : Int) < (k : Int) + 1 := by omega
  have hn5 : (k : Int) < (k : Int) + 1 := by omega
  go_enter Try.func15, Try.ntmps15
  go_wp2_with fail
  go_quiet (fail)
  obtain ⟨W0, hW0⟩ : ∃ W0, w.drewN nq = W0 := ⟨_, rfl⟩
  have hb0 : Below w.heap.size w W0 := by rw [← hW0]; exact below_drewN (Below.refl _ _) nq
  rw [hW0]
  have H0 := Lib.hid (H.out.below hb0)
  have hV0 := Lib.hid (HV.out.below hb0)
  have hB0 := Lib.hid hb0
  obtain ⟨c0, c1, c2, c3, c4, cf⟩ := H0.out.cells
  have f1 := cf 1
  rw [List.length_append, List.length_singleton, hk] at c1
  clear hW0 cx cf c2 c3 c4 c0
  go_wp2_with fail
  go_region
  obtain ⟨W1, hW1⟩ : ∃ W1, (W0.setCell ⟨N, 1, none⟩ (.slice (some ⟨b, off, none⟩) k cap)).drew = W1 := ⟨_, rfl⟩
  have hd1 : Below (W0.setCell ⟨N, 1, none⟩ (.slice (some ⟨b, off, none⟩) k cap)).heap.size (W0.setCell ⟨N, 1, none⟩ (.slice (some ⟨b, off, none⟩) k cap)) W1 := by rw [← hW1]; go_grown
  have H1 : Hid (RS N W1 m fr pk (.slice (some ⟨b, off, none⟩) k cap) vt l tk) := Lib.hid ((H0.out.set 1 (.slice (some ⟨b, off, none⟩) k cap) _ _ _ _ _ l _ rfl hV0.out H0.out.t H0.out.nb H0.out.nt (fun q e => H0.out.lb q e) H0.out.lt).below hd1)
  have hK1 : Hid (KN N w W1 ∧ Below N w W1) := Lib.hid ⟨((KN.below hB0.out).trans (KN.set N 1 _ _)).trans (KN.below hd1), ((hB0.out.mono (Nat.le_of_lt hNl)).setCell (Nat.le_refl _) _).trans (hd1.mono (by rw [size_set]; have := hB0.out.size; omega))⟩
  rw [hW1]
  clear hW1 hd1 c1 f1 H0 hV0 hB0 hn0 hn1 hn3 hn4 hn5 H HV
  obtain ⟨d0, d1, d2, d3, d4, df⟩ := H1.out.cells
  have f2 := df 2
  have hN1 := H1.out.ltN
  have hn1 : Below W1.heap.size W1 (W1.alloc (.cells #[] 3)) := by go_grown
  have HN1 := Lib.hid hn1
  have V1 := Lib.hid (H1.out.t.below hn1)
  clear df hn1
  go_wp2_with ((at_builtin; refine wpList_copy_row rfl _ _ rfl W1.heap.size W1.heap.size rfl (heap_alloc_new _ _) (Nat.le_refl _) tk V1.out (by omega) ?_))
  intro v1 W2 hr1 hb1
  have hb2 : Below W1.heap.size W1 W2 := HN1.out.trans hb1
  have HB2 := Lib.hid hb2
  have hs2 := hb2.size
  have hn2 : Below W2.heap.size W2 (W2.alloc (.cells #[.int .i64 x] 3)) := by go_grown
  have HN2 := Lib.hid hn2
  have R2 := Lib.hid (OI.below (xs := tk) hr1 hn2)
  have hz2 : W1.heap.size ≤ (W2.alloc (.cells #[.int .i64 x] 3)).heap.size := by simp; omega
  have O1 : Hid (∀ k, v1.ownBlock = some k → W1.heap.size ≤ k ∧ k < W2.heap.size) := Lib.hid (fun k e => own_lt (xs := tk) hr1 e)
  obtain ⟨e0, e1, e2, e3, e4, ef⟩ := (H1.out.below hb2).cells
  have g2 := ef 2
  clear hr1 hb1 hb2 hn2 d0 d1 d2 d3 d4 f2 ef
  go_wp2_with ((at_builtin; refine wpList_app1 rfl _ _ rfl W1.heap.size v1 tk rfl ⟨W2.heap.size, 0, none⟩ 1 rfl x R2.out (by go_simp) rfl (by omega) hz2 ?_))
  intro v2 W3 hr2 hg2 ho2
  replace hr2 : OI W3 W1.heap.size v2 (tk ++ [x]) := by unfold OI; simpa using hr2
  have hb3 : Below W1.heap.size W1 W3 := (HB2.out.trans (HN2.out.mono hs2)).grown hg2 hz2 (fun k e => (O1.out k e).1)
  have H3 := H1.out.below hb3
  have hl2 : ∀ k, v2.ownBlock = some k → W1.heap.size ≤ k ∧ k < W3.heap.size := fun k e => own_lt hr2 e
  have hV2 := view_of_own hr2
  obtain ⟨a2, cap2, rfl, _⟩ := OI.form hr2
  obtain ⟨e0, e1, e2, e3, e4, ef⟩ := H3.cells
  have g2 := ef 2
  have H4 := Lib.hid (H3.set 2 (.slice a2 (tk ++ [x]).length cap2) _ _ _ _ _ _ (tk ++ [x]) rfl H3.b hV2 H3.nb (fun e => by have := (hl2 N e).1; omega) H3.lb (fun k e => (hl2 k e).2))
  have HL2 := Lib.hid hl2
  have HB3 := Lib.hid hb3
  have hLL : (tk ++ [x]).length = tk.length + 1 := by simp
  rw [hLL] at H4 HL2 ⊢
  have hK4 : Hid (KN N W1 (W3.setCell ⟨N, 2, none⟩ (.slice a2 (tk.length + 1) cap2)) ∧ Below N W1 (W3.setCell ⟨N, 2, none⟩ (.slice a2 (tk.length + 1) cap2))) := Lib.hid ⟨(KN.below HB3.out).trans (KN.set N 2 _ _), (HB3.out.mono (Nat.le_of_lt hN1)).setCell (Nat.le_refl _) _⟩
  clear hr2 hg2 ho2 hb3 H3 hl2 hV2 hLL ef O1 R2 HN2 HB2 V1 HN1
  obtain ⟨W4, hW4⟩ : ∃ W4, W3.setCell ⟨N, 2, none⟩ (.slice a2 (tk.length + 1) cap2) = W4 := ⟨_, rfl⟩
  rw [hW4] at H4 hK4
  obtain ⟨T, hT⟩ : ∃ T, tk.length + 1 = T := ⟨_, rfl⟩
  rw [hT] at hHP H4 HL2 hW4 ⊢
  go_wp2_with fail
  clear hW4 e0 e1 e2 e3 e4 g2
  obtain ⟨e0, e1, e2, e3, e4, ef⟩ := H4.out.cells
  have g4 := ef 4
  have hpm : max pk (T : Int) = pk' := hHP.out
  have hpf : (if pk < (T : Int) then (T : Int) else pk) = pk' := by rw [← hpm]; split <;> omega
  have H5 := Lib.hid (H4.out.set 4 (.int .i64 pk') _ _ pk' _ _ _ _ rfl H4.out.b H4.out.t H4.out.nb H4.out.nt H4.out.lb H4.out.lt)
  clear ef e0 e1 e3
  go_region
  go_wp2_with fail
  go_ret2
  have hd5 : Below (W4.setCell ⟨N, 4, none⟩ (.int .i64 pk')).heap.size (W4.setCell ⟨N, 4, none⟩ (.int .i64 pk')) (W4.setCell ⟨N, 4, none⟩ (.int .i64 pk')).drew := by go_grown
  have k1 := hK1.out
  have k4 := hK4.out
  have hsz4 : N < W4.heap.size := H4.out.ltN
  refine ⟨rfl, _, _, H5.out.below hd5, ((k1.1.trans k4.1).trans (KN.set N 4 _ _)).trans (KN.below hd5), ((k1.2.trans k4.2).setCell (Nat.le_refl _) _).trans (hd5.mono (by rw [size_set]; omega)), fun q e => .inl e, fun q e => .inr ?_⟩
  have := (HL2.out q e).1
  have := k1.1.1
  omega
set_option maxRecDepth 20000 in
set_option maxHeartbeats 1000000 in
theorem take_fresh (N : Nat) (m fr nx pk pk' : Int) (vb vt : Value) (tk : List Int) (w : World) (h : RS N w m fr pk vb vt [] tk) (hne : ¬ fr = m) (hnx : fr + 1 = nx) (hnr : 0 ≤ fr ∧ fr ≤ 2000) (ht : tk.length ≤ 2000) (hp : max pk ((tk.length + 1 : Nat) : Int) = pk') :
    Calls Try.prog 15 #[.pointer (some ⟨N, 0, none⟩)] w (RPost N w m nx pk' vb vt [] (tk ++ [nx]) (.tuple #[.int .i64 nx, .bool true])) := by
  obtain ⟨c0, c1, c2, c3, c4, cf⟩ := h.cells
  have hNl := h.ltN
  have hHP := Lib.hid hp
  have H := Lib.hid h
  have HVB := Lib.hid h.b
  have he : (fr == m) = false := beq_eq_false_iff_ne.2 hne
  have hw : IntKind.i64.wrap nx = nx := by rw [IntKind.wrap_i64]; omega
  obtain ⟨ab, cb, rfl, _⟩ := h.b
  simp only [List.length_nil] at c1
  clear h hp cf c2 c4
  go_enter Try.func15, Try.ntmps15
  go_wp2_with fail
  go_quiet (fail)
  obtain ⟨W0, hW0⟩ : ∃ W0, w.drewN nq = W0 := ⟨_, rfl⟩
  have hb0 : Below w.heap.size w W0 := by rw [← hW0]; exact below_drewN (Below.refl _ _) nq
  rw [hW0]
  have H0 := Lib.hid (H.out.below hb0)
  have hB0 := Lib.hid hb0
  clear hW0 c0 c1 c3
  obtain ⟨c0, c1, c2, c3, c4, cf⟩ := H0.out.cells
  have f3 := cf 3
  obtain ⟨W1, hW1⟩ : ∃ W1, W0.setCell ⟨N, 3, none⟩ (.int .i64 nx) = W1 := ⟨_, rfl⟩
  have H1 : Hid (RS N W1 m nx pk (.slice ab 0 cb) vt [] tk) := Lib.hid (hW1 ▸ (H0.out.set 3 (.int .i64 nx) _ nx _ _ _ [] _ rfl H0.out.b H0.out.t H0.out.nb H0.out.nt H0.out.lb H0.out.lt))
  have hK1 : Hid (KN N w W1 ∧ Below N w W1) := Lib.hid (hW1 ▸ ⟨(KN.below hB0.out).trans (KN.set N 3 _ _), (hB0.out.mono (Nat.le_of_lt hNl)).setCell (Nat.le_refl _) _⟩)
  have cn := H1.out.cells.2.2.2.1
  clear cf c0 c1 c2 c4 hb0 H0 hB0 H HVB he hne
  obtain ⟨d0, d1, d2, d3, d4, df⟩ := H1.out.cells
  have f2 := df 2
  have hN1 := H1.out.ltN
  have hn1 : Below W1.heap.size W1 (W1.alloc (.cells #[] 3)) := by go_grown
  have HN1 := Lib.hid hn1
  have V1 := Lib.hid (H1.out.t.below hn1)
  clear df hn1
  go_wp2_with ((at_builtin; refine wpList_copy_row rfl _ _ rfl W1.heap.size W1.heap.size rfl (heap_alloc_new _ _) (Nat.le_refl _) tk V1.out (by omega) ?_))
  intro v1 W2 hr1 hb1
  have hb2 : Below W1.heap.size W1 W2 := HN1.out.trans hb1
  have HB2 := Lib.hid hb2
  have hs2 := hb2.size
  have hn2 : Below W2.heap.size W2 (W2.alloc (.cells #[.int .i64 nx] 3)) := by go_grown
  have HN2 := Lib.hid hn2
  have R2 := Lib.hid (OI.below (xs := tk) hr1 hn2)
  have hz2 : W1.heap.size ≤ (W2.alloc (.cells #[.int .i64 nx] 3)).heap.size := by simp; omega
  have O1 : Hid (∀ k, v1.ownBlock = some k → W1.heap.size ≤ k ∧ k < W2.heap.size) := Lib.hid (fun k e => own_lt (xs := tk) hr1 e)
  obtain ⟨e0, e1, e2, e3, e4, ef⟩ := (H1.out.below hb2).cells
  have g2 := ef 2
  clear hr1 hb1 hb2 hn2 d0 d1 d2 d3 d4 f2 ef
  go_wp2_with ((at_builtin; refine wpList_app1 rfl _ _ rfl W1.heap.size v1 tk rfl ⟨W2.heap.size, 0, none⟩ 1 rfl nx R2.out (by go_simp) rfl (by omega) hz2 ?_))
  intro v2 W3 hr2 hg2 ho2
  replace hr2 : OI W3 W1.heap.size v2 (tk ++ [nx]) := by unfold OI; simpa using hr2
  have hb3 : Below W1.heap.size W1 W3 := (HB2.out.trans (HN2.out.mono hs2)).grown hg2 hz2 (fun k e => (O1.out k e).1)
  have H3 := H1.out.below hb3
  have hl2 : ∀ k, v2.ownBlock = some k → W1.heap.size ≤ k ∧ k < W3.heap.size := fun k e => own_lt hr2 e
  have hV2 := view_of_own hr2
  obtain ⟨a2, cap2, rfl, _⟩ := OI.form hr2
  obtain ⟨e0, e1, e2, e3, e4, ef⟩ := H3.cells
  have g2 := ef 2
  have H4 := Lib.hid (H3.set 2 (.slice a2 (tk ++ [nx]).length cap2) _ _ _ _ _ _ (tk ++ [nx]) rfl H3.b hV2 H3.nb (fun e => by have := (hl2 N e).1; omega) H3.lb (fun k e => (hl2 k e).2))
  have HL2 := Lib.hid hl2
  have HB3 := Lib.hid hb3
  have hLL : (tk ++ [nx]).length = tk.length + 1 := by simp
  rw [hLL] at H4 HL2 ⊢
  have hK4 : Hid (KN N W1 (W3.setCell ⟨N, 2, none⟩ (.slice a2 (tk.length + 1) cap2)) ∧ Below N W1 (W3.setCell ⟨N, 2, none⟩ (.slice a2 (tk.length + 1) cap2))) := Lib.hid ⟨(KN.below HB3.out).trans (KN.set N 2 _ _), (HB3.out.mono (Nat.le_of_lt hN1)).setCell (Nat.le_refl _) _⟩
  clear hr2 hg2 ho2 hb3 H3 hl2 hV2 hLL ef O1 R2 HN2 HB2 V1 HN1
  obtain ⟨W4, hW4⟩ : ∃ W4, W3.setCell ⟨N, 2, none⟩ (.slice a2 (tk.length + 1) cap2) = W4 := ⟨_, rfl⟩
  rw [hW4] at H4 hK4
  obtain ⟨T, hT⟩ : ∃ T, tk.length + 1 = T := ⟨_, rfl⟩
  rw [hT] at hHP H4 HL2 hW4 ⊢
  go_wp2_with fail
  clear hW4 e0 e1 e2 e3 e4 g2
  obtain ⟨e0, e1, e2, e3, e4, ef⟩ := H4.out.cells
  have g4 := ef 4
  have hpm : max pk (T : Int) = pk' := hHP.out
  have hpf : (if pk < (T : Int) then (T : Int) else pk) = pk' := by rw [← hpm]; split <;> omega
  have H5 := Lib.hid (H4.out.set 4 (.int .i64 pk') _ _ pk' _ _ _ _ rfl H4.out.b H4.out.t H4.out.nb H4.out.nt H4.out.lb H4.out.lt)
  clear ef e0 e1 e3
  go_region
  go_wp2_with fail
  go_ret2
  have hd5 : Below (W4.setCell ⟨N, 4, none⟩ (.int .i64 pk')).heap.size (W4.setCell ⟨N, 4, none⟩ (.int .i64 pk')) (W4.setCell ⟨N, 4, none⟩ (.int .i64 pk')).drew := by go_grown
  have k1 := hK1.out
  have k4 := hK4.out
  have hsz4 : N < W4.heap.size := H4.out.ltN
  refine ⟨rfl, _, _, H5.out.below hd5, ((k1.1.trans k4.1).trans (KN.set N 4 _ _)).trans (KN.below hd5), ((k1.2.trans k4.2).setCell (Nat.le_refl _) _).trans (hd5.mono (by rw [size_set]; omega)), fun q e => .inl e, fun q e => .inr ?_⟩
  have := (HL2.out q e).1
  have := k1.1.1
  omega
end Go.Proofs.Ytajmmglfdinahaa.rf
