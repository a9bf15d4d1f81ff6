/- The document's arena: a number is given back (layer 10). -/
import Derived.Test.YtajmmglfdinahaaRfB
namespace Go.Proofs.Ytajmmglfdinahaa.rf
open Go.ChangeShapes Go.WideShapes Go.ChangeAt Go.RowKit Go.Proofs.Ytajmmglfdinahaa.mo
set_option linter.unusedVariables false
set_option linter.unusedSimpArgs false
theorem give_no (N : Nat) (m fr pk : Int) (vb vt : Value) (bk tk : List Int) (id : Int) (w : World) (h : RS N w m fr pk vb vt bk tk) (ht : tk.length ≤ 2000) (hh : hasB tk id = false) :
    Calls Try.prog 17 #[.pointer (some ⟨N, 0, none⟩), .int .i64 id] w fun e w' => e = .returned (.bool false) ∧ w' = w := by
  obtain ⟨c0, c1, c2, c3, c4, cf⟩ := h.cells
  have C := Lib.hid (has_of vt tk id w h.t (by omega))
  rw [hh] at C
  clear h cf c0 c1 c3 c4
  go_enter Try.func17, Try.ntmps17
  go_wp2_with (first | (go_at_call 21; refine C.out.mono ?_; rintro e w1 ⟨rfl, rfl⟩))
  go_ret
  exact ⟨rfl, rfl⟩
theorem filter_take (tk : List Int) (id u : Int) (k : Nat) (hk : k < tk.length) (hu : tk.getD k 0 = u) : (tk.take (k + 1)).filter (fun y => y != id) = if u = id then (tk.take k).filter (fun y => y != id) else (tk.take k).filter (fun y => y != id) ++ [u] := by
  have e : tk.take (k + 1) = tk.take k ++ [u] := by
    rw [List.take_add_one, List.getElem?_eq_getElem hk]
    rw [List.getD_eq_getElem?_getD, List.getElem?_eq_getElem hk] at hu
    simp at hu
    simp [hu]
  rw [e, List.filter_append]
  split
  · rename_i h; simp [h]
  · rename_i h; simp [h]
set_option maxRecDepth 20000 in
set_option maxHeartbeats 1000000 in
theorem give_yes (N : Nat) (m fr pk : Int) (vb vt : Value) (bk tk : List Int) (id : Int) (w : World) (h : RS N w m fr pk vb vt bk tk) (hl : bk.length ≤ 2000) (ht : tk.length ≤ 2000) (hh : hasB tk id = true) :
    Calls Try.prog 17 #[.pointer (some ⟨N, 0, none⟩), .int .i64 id] w (RPost N w m fr pk vb vt (bk ++ [id]) (tk.filter (fun y => y != id)) (.bool true)) := by
  obtain ⟨c0, c1, c2, c3, c4, cf⟩ := h.cells
  have C := Lib.hid (has_of vt tk id w h.t (by omega))
  rw [hh] at C
  have hNl := h.ltN
  have H := Lib.hid h
  obtain ⟨at_, ct, rfl, _, _, hc⟩ := h.t
  have HC := Lib.hid hc
  obtain ⟨n, hn⟩ : ∃ n, tk.length = n := ⟨_, rfl⟩
  have HN := Lib.hid hn
  have hF : Hid (OI w w.heap.size (.slice none 0 0) []) := Lib.hid (World.ownsRow_nil _ _ _ _)
  have hF0 : Hid ((tk.take 0).filter (fun y => y != id) = []) := Lib.hid (by simp)
  rw [hn] at C c2 ht H
  clear h hc cf c0 c1 c3 c4 hn hh
  go_enter Try.func17, Try.ntmps17
  go_wp2_with (first | (go_at_call 21; refine C.out.mono ?_; rintro e w1 ⟨rfl, rfl⟩))
  clear C
  go_loopw [5, 6] (fun v i wr => ∃ (k : Nat) (ys : List Int), k ≤ n ∧ ys.length ≤ k ∧ i = .int .i64 (k : Int) ∧ Hid (OI wr w1.heap.size v ys) ∧ Hid ((tk.take k).filter (fun y => y != id) = ys) ∧ Hid (Below w1.heap.size w1 wr)) (fun _ i _ => n - (intOf i).toNat)
  case atStart => exact ⟨0, [], by omega, by simp, rfl, hF, hF0, Lib.hid (Below.refl _ _)⟩
  case round =>
    clear hF hF0 c2
    obtain ⟨k, ys, hk, hyl, rfl, HO, HY, HB⟩ := hrel
    obtain ⟨c0, c1, c2, c3, c4, cf⟩ := (H.out.below HB.out).cells
    by_cases hlt : k < n
    · obtain ⟨b, off, rfl, hbl, _, hcc⟩ := HC.out (by intro e; rw [e] at HN; have := HN.out; simp at this; omega)
      have ck := (HB.out.cell (p := ⟨b, off + k, none⟩) hbl).trans (hcc k (by have := HN.out; omega))
      obtain ⟨u, hu⟩ : ∃ u, tk.getD k 0 = u := ⟨_, rfl⟩
      rw [hu] at ck
      have HFT := Lib.hid (filter_take tk id u k (by have := HN.out; omega) hu)
      have hbl2 : b < wr.heap.size := Nat.lt_of_lt_of_le hbl HB.out.size
      clear hu hcc cf c0 c1 c3 c4
      by_cases hun : u = id
      · have HY2 : Hid ((tk.take (k + 1)).filter (fun y => y != id) = ys) := Lib.hid (by rw [HFT.out, if_pos hun]; exact HY.out)
        clear HFT HY
        subst hun
        go_wp2_with fail
        go_roundw
        case rel => exact ⟨k + 1, ys, by omega, by omega, by go_num, HO, HY2, HB⟩
        case measure => simp [intOf]; omega
      · have HY2 : Hid ((tk.take (k + 1)).filter (fun y => y != id) = ys ++ [u]) := Lib.hid (by rw [HFT.out, if_neg hun, HY.out])
        clear HFT HY
        have hne : (u == id) = false := beq_eq_false_iff_ne.2 hun
        have hne2 : (u != id) = true := bne_iff_ne.2 hun
        have hn1 : Below wr.heap.size wr (wr.alloc (.cells #[.int .i64 u] 3)) := by go_grown
        have HN1 := Lib.hid hn1
        have R1 := Lib.hid (HO.out.below hn1)
        have hs1 := HB.out.size
        have hz : w1.heap.size ≤ (wr.alloc (.cells #[.int .i64 u] 3)).heap.size := by simp; omega
        clear hn1
        rename_i sv _ _
        go_wp2_with ((at_builtin; refine wpList_app1 rfl _ _ rfl w1.heap.size _ ys rfl ⟨wr.heap.size, 0, none⟩ 1 rfl u R1.out (by go_simp) rfl (by omega) hz ?_))
        intro v2 W3 hr2 hg2 ho2
        replace hr2 : OI W3 w1.heap.size v2 (ys ++ [u]) := by unfold OI; simpa using hr2
        have HR3 := Lib.hid hr2
        have HB3 : Hid (Below w1.heap.size w1 W3) := Lib.hid ((HB.out.trans (HN1.out.mono hs1)).grown hg2 hz (fun k e => (own_lt R1.out e).1))
        clear hr2 hg2 ho2 R1
        go_wp2_with fail
        go_roundw
        case rel => exact ⟨k + 1, ys ++ [u], by omega, by simp; omega, by go_num, HR3, HY2, HB3⟩
        case measure => simp [intOf]; omega
    · obtain rfl : k = n := by omega
      have hys : tk.filter (fun y => y != id) = ys := by have := HY.out; rwa [← HN.out, List.take_length] at this
      have HYS := Lib.hid hys
      clear hys HY
      have f2 := cf 2
      have H0 := H.out.below HB.out
      have hov := fun q e => own_lt HO.out (k := q) e
      have HVV := view_of_own HO.out
      obtain ⟨av, cv, hav, _⟩ := OI.form HO.out
      subst hav
      obtain ⟨W1, hW1⟩ : ∃ W1, wr.setCell ⟨N, 2, none⟩ (.slice av ys.length cv) = W1 := ⟨_, rfl⟩
      have H1 : Hid (RS N W1 m fr pk vb (.slice av ys.length cv) bk ys) := Lib.hid (hW1 ▸ (H0.set 2 (.slice av ys.length cv) _ _ _ _ _ _ ys rfl H0.b HVV H0.nb (fun e => by have := (hov N e).1; omega) H0.lb (fun q e => (hov q e).2)))
      have hK1 : Hid (KN N w1 W1 ∧ Below N w1 W1) := Lib.hid (hW1 ▸ ⟨(KN.below HB.out).trans (KN.set N 2 _ _), (HB.out.mono (Nat.le_of_lt hNl)).setCell (Nat.le_refl _) _⟩)
      have HOV := Lib.hid hov
      clear cf c0 c1 c3 c4 HO HB H0 H HVV hov
      obtain ⟨d0, d1, d2, d3, d4, df⟩ := H1.out.cells
      have f1 := df 1
      have hN1 := H1.out.ltN
      have hn1 : Below W1.heap.size W1 (W1.alloc (.cells #[] 3)) := by go_grown
      have HN1 := Lib.hid hn1
      have V1 := Lib.hid (H1.out.b.below hn1)
      clear df hn1
      go_wp2_with ((at_builtin; refine wpList_copy_row rfl _ _ rfl W1.heap.size W1.heap.size rfl (heap_alloc_new _ _) (Nat.le_refl _) bk V1.out (by omega) ?_))
      intro v1 W2 hr1 hb1
      have hb2 : Below W1.heap.size W1 W2 := HN1.out.trans hb1
      have HB2 := Lib.hid hb2
      have hs2 := hb2.size
      have hn2 : Below W2.heap.size W2 (W2.alloc (.cells #[.int .i64 id] 3)) := by go_grown
      have HN2 := Lib.hid hn2
      have R2 := Lib.hid (OI.below (xs := bk) hr1 hn2)
      have hz2 : W1.heap.size ≤ (W2.alloc (.cells #[.int .i64 id] 3)).heap.size := by simp; omega
      have O1 : Hid (∀ k, v1.ownBlock = some k → W1.heap.size ≤ k ∧ k < W2.heap.size) := Lib.hid (fun k e => own_lt (xs := bk) hr1 e)
      obtain ⟨e0, e1, e2, e3, e4, ef⟩ := (H1.out.below hb2).cells
      have g1 := ef 1
      clear hr1 hb1 hb2 hn2 d0 d1 d2 d3 d4 f1 f2 ef hW1
      go_wp2_with ((at_builtin; refine wpList_app1 rfl _ _ rfl W1.heap.size v1 bk rfl ⟨W2.heap.size, 0, none⟩ 1 rfl id R2.out (by go_simp) rfl (by omega) hz2 ?_))
      intro v2 W3 hr2 hg2 ho2
      replace hr2 : OI W3 W1.heap.size v2 (bk ++ [id]) := by unfold OI; simpa using hr2
      have hb3 : Below W1.heap.size W1 W3 := (HB2.out.trans (HN2.out.mono hs2)).grown hg2 hz2 (fun k e => (O1.out k e).1)
      have H3 := H1.out.below hb3
      have hl2 : ∀ k, v2.ownBlock = some k → W1.heap.size ≤ k ∧ k < W3.heap.size := fun k e => own_lt hr2 e
      have hV2 := view_of_own hr2
      obtain ⟨a2, cap2, rfl, _⟩ := OI.form hr2
      obtain ⟨e0, e1, e2, e3, e4, ef⟩ := H3.cells
      have g1 := ef 1
      have H4 := Lib.hid (H3.set 1 (.slice a2 (bk ++ [id]).length cap2) _ _ _ _ _ (bk ++ [id]) _ rfl hV2 H3.t (fun e => by have := (hl2 N e).1; omega) H3.nt (fun k e => (hl2 k e).2) H3.lt)
      have HL2 := Lib.hid hl2
      have hK4 : Hid (KN N W1 (W3.setCell ⟨N, 1, none⟩ (.slice a2 (bk ++ [id]).length cap2)) ∧ Below N W1 (W3.setCell ⟨N, 1, none⟩ (.slice a2 (bk ++ [id]).length cap2))) := Lib.hid ⟨(KN.below hb3).trans (KN.set N 1 _ _), (hb3.mono (Nat.le_of_lt hN1)).setCell (Nat.le_refl _) _⟩
      clear hr2 hg2 ho2 hb3 H3 hl2 hV2 ef O1 R2 HN2 HB2 V1 HN1
      generalize (bk ++ [id]).length = L at *
      go_wp2_with fail
      go_ret
      have k1 := hK1.out
      have k4 := hK4.out
      unfold RPost
      rw [HYS.out]
      refine ⟨rfl, _, _, H4.out, k1.1.trans k4.1, k1.2.trans k4.2, fun q e => .inr ?_, fun q e => .inr ?_⟩
      · have := (HL2.out q e).1
        have := k1.1.1
        omega
      · exact (HOV.out q e).1
end Go.Proofs.Ytajmmglfdinahaa.rf
