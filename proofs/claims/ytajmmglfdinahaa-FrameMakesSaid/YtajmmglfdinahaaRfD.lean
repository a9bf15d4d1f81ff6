/- All numbers that are taken, at most so many; numbers, the least first (layer 10). -/
import Derived.Test.YtajmmglfdinahaaRfC
namespace Go.Proofs.Ytajmmglfdinahaa.rf
open Go.ChangeShapes Go.WideShapes Go.ChangeAt Go.RowKit Go.Proofs.Ytajmmglfdinahaa.mo
open Go.Proofs.Ytajmmglfdinahaa.ar (AS ups ups_succ ups_miss ups_pre ups_le row_some row_at row_form heldB)
set_option linter.unusedVariables false
set_option linter.unusedSimpArgs false
theorem eq_fn10 (f : Fn) (a b : Array Value) (w : World) : Sem.run Try.prog (binOp .eql 92 (.func f a b) .nilFunc) w = .ok (.bool false) w := by kernel_rfl
theorem eq_fy10 (f : Fn) (a b : Array Value) (w : World) : Sem.run Try.prog (binOp .eql 32 (.func f a b) .nilFunc) w = .ok (.bool false) w := by kernel_rfl
set_option maxRecDepth 20000 in
theorem each10_of (V Q B : Nat) (v : Value) (xs : List Int) (x most : Int) (b : Bool) (w : World) (h : WL w V B v xs) (hQ : w.cell? ⟨Q, 0, none⟩ = some (.int .i64 most)) (hQB : Q < B) (hQV : Q ≠ V) (hl : xs.length ≤ 2000) (hb : Hid (decide (((xs.length + 1 : Nat) : Int) < most) = b)) :
    Calls Try.prog 61 #[.int .i64 x, .pointer (some ⟨V, 0, none⟩), .pointer (some ⟨Q, 0, none⟩)] w fun e w' => e = .returned (.bool b) ∧ ∃ v', WL w' V B v' (xs ++ [x]) ∧ KV V B w w' ∧ Below V w w' := by
  have c0 : w.cell? ⟨V, 0, none⟩ = some v := by simp [World.cell?, h.c]
  have hlt := h.lt
  have hle := h.le
  obtain ⟨a, cap, rfl, _⟩ := OI.form h.r
  have H := Lib.hid h
  have hn1 : Below w.heap.size w (w.alloc (.cells #[.int .i64 x] 3)) := by go_grown
  have HN := Lib.hid hn1
  have R1 := Lib.hid (h.r.below hn1)
  have hsz2 : B ≤ (w.alloc (.cells #[.int .i64 x] 3)).heap.size := by simp; omega
  clear h hn1
  generalize hL : xs.length = n at *
  have HL := Lib.hid hL
  clear hL
  go_enter Try.func61, Try.ntmps61
  go_wp2_with ((at_builtin; refine wpList_app1 rfl _ _ rfl B (.slice a n cap) xs rfl ⟨w.heap.size, 0, none⟩ 1 rfl x R1.out (by go_simp) rfl (by have := HL.out; omega) hsz2 ?_))
  intro v' W2 hr2 hg2 ho2
  replace hr2 : OI W2 B v' (xs ++ [x]) := by unfold OI; simpa using hr2
  obtain ⟨o', cap', rfl, _⟩ := OI.form (xs := xs ++ [x]) hr2
  have hne : ∀ k, (Value.slice a n cap).ownBlock = some k → B ≤ k := fun k e => (H.out.r.lt k e).1
  have hV2 : W2.heap[V]? = some (.cells #[.slice a n cap] 34 (0, 0)) := (hg2.block V (by simp; omega) (fun e => by have := hne V e.symm; omega)).trans ((HN.out.block V (by omega)).trans H.out.c)
  have hQ2 : W2.cell? ⟨Q, 0, none⟩ = some (.int .i64 most) := (cell_heap ((hg2.block Q (by simp; omega) (fun e => by have := hne Q e.symm; omega)).trans (HN.out.block Q (by omega)))).trans hQ
  have c1 : W2.cell? ⟨V, 0, none⟩ = some (.slice a n cap) := by simp [World.cell?, hV2]
  have f1 : W2.frozen? ⟨V, 0, none⟩ = false := by simp [World.frozen?, hV2]
  have hsz : w.heap.size ≤ W2.heap.size := by have := hg2.size; simp at this; omega
  have hb2 : Below V w W2 := (HN.out.mono (by omega)).grown hg2 (by simp; omega) (fun k e => by have := hne k e; omega)
  have hLn : (xs ++ [x]).length = n + 1 := by have := HL.out; simp; omega
  rw [hLn] at hr2 ⊢
  obtain ⟨W3, hW3⟩ : ∃ W3, W2.setCell ⟨V, 0, none⟩ (.slice o' (n + 1) cap') = W3 := ⟨_, rfl⟩
  have hV3 : W3.heap[V]? = some (.cells #[.slice o' (n + 1) cap'] 34 (0, 0)) := by rw [← hW3, set_obj (i := 0) _ hV2]; rfl
  have hW : WL W3 V B (.slice o' (n + 1) cap') (xs ++ [x]) :=
    ⟨hV3, by rw [← hW3]; exact oi_keep hr2 (fun k hk => set_heap W2 V 0 k _ (fun e => by have := (own_lt hr2 hk).1; omega)), hlt, by rw [← hW3, size_set]; omega⟩
  have hK3 : KV V B w W3 := by
    rw [← hW3]
    refine ⟨by rw [size_set]; exact hsz, fun k hk hkV => ?_⟩
    rw [set_heap W2 V 0 k _ hkV, hg2.block k (by simp; omega) (fun e => by have := hne k e.symm; omega), HN.out.block k (by omega)]
  have hb3 : Below V w W3 := by rw [← hW3]; exact hb2.setCell (p := ⟨V, 0, none⟩) (Nat.le_refl _) _
  have FIN := Lib.hid (And.intro hW (And.intro hK3 hb3))
  have cV : W3.cell? ⟨V, 0, none⟩ = some (.slice o' (n + 1) cap') := by simp [World.cell?, hV3]
  have cQ : W3.cell? ⟨Q, 0, none⟩ = some (.int .i64 most) := by rw [← hW3, cell_heap (set_heap W2 V 0 Q _ hQV)]; exact hQ2
  have hbb := hb.out
  clear hr2 hg2 ho2 hV2 hb2 hW hK3 c0 hb3 hV3 hLn hQ2
  go_wp2_with fail
  go_ret
  refine ⟨ret_bool ?_, _, FIN.out⟩
  have := hbb
  push_cast at this
  exact this
theorem prefix_take {l m : List Int} {c : Nat} (h : l <+: m) (hc : l.length = c) : m.take c = l := by
  subst hc; exact (List.prefix_iff_eq_take.1 h).symm
set_option maxRecDepth 20000 in
set_option maxHeartbeats 1000000 in
theorem alls10_of (V Q D A B c : Nat) (S : Nat → Prop) (m p most : Int) (hv bv : Value) (hs : List Bool) (bk : List Int) (w : World) (h : AS S B A w m (hs.length : Int) p hv bv hv bv hs bk) (hl : hs.length ≤ 1000) (hc : max most 1 = (c : Int))
    (hD : w.cell? ⟨D, 0, none⟩ = some (.pointer (some ⟨A, 0, none⟩))) (hQ : w.cell? ⟨Q, 0, none⟩ = some (.int .i64 most)) (hV : w.heap[V]? = some (.cells #[.slice none 0 0] 34 (0, 0))) (hVA : V ≠ A) (hVD : V ≠ D) (hVQ : V ≠ Q) (hVv : hv.ownBlock ≠ some V) :
    Calls Try.prog 79 #[.func (.func 61) #[] #[.pointer (some ⟨V, 0, none⟩), .pointer (some ⟨Q, 0, none⟩)], .pointer (some ⟨D, 0, none⟩)] w fun e w' => (∃ r, e = .returned r) ∧ ∃ B' v', WL w' V B' v' ((ups hs hs.length).take c) ∧ w.heap.size ≤ B' ∧ KV V w.heap.size w w' ∧ Below V w w' := by
  have nfy := fun f a b => eq_fy10 f a b w
  obtain ⟨c0, c1, c2, c3, c4, cf⟩ := h.cells
  have hAl : A < w.heap.size := h.lt
  have hDl : D < w.heap.size := World.block_lt_of_cell? w _ hD
  have hQl : Q < w.heap.size := World.block_lt_of_cell? w _ hQ
  have hVl : V < w.heap.size := lt_of_heap hV
  have hcell : Hid (∀ k, k < hs.length → ∃ g cap, hv = .slice (some ⟨g, 0, none⟩) hs.length cap ∧ g < w.heap.size ∧ g ≠ V ∧ w.cell? ⟨g, k, none⟩ = some (.bool (hs.getD k false))) := Lib.hid fun k hk => by
    obtain ⟨g, cap, rfl, _, _, hg⟩ := row_some h.rh (by omega)
    exact ⟨g, cap, rfl, hg, fun e => hVv (by rw [← e]; rfl), row_at h.rh (j := k) (u := .bool (hs.getD k false)) (by simp [List.getElem?_eq_getElem hk, hk])⟩
  have H0 : Hid (∃ v', WL w V w.heap.size v' (ups hs 0)) := Lib.hid ⟨_, hV, World.ownsRow_nil _ _ _ _, hVl, Nat.le_refl _⟩
  obtain ⟨n, hn⟩ : ∃ n, hs.length = n := ⟨_, rfl⟩
  have HN := Lib.hid hn
  rw [hn] at hcell c1 hl
  have hk0 : Hid (∀ w', KV V w.heap.size w w' → w'.cell? ⟨D, 0, none⟩ = some (.pointer (some ⟨A, 0, none⟩)) ∧ w'.cell? ⟨Q, 0, none⟩ = some (.int .i64 most) ∧ w'.cell? ⟨A, 1, none⟩ = some (.int .i64 (n : Int)) ∧ w'.cell? ⟨A, 2, none⟩ = some hv) := Lib.hid fun w' hk => ⟨(cell_heap (hk.2 D hDl hVD.symm)).trans hD, (cell_heap (hk.2 Q hQl hVQ.symm)).trans hQ, (cell_heap (hk.2 A hAl hVA.symm)).trans c1, (cell_heap (hk.2 A hAl hVA.symm)).trans c2⟩
  have hc1 : 1 ≤ c := by omega
  clear h c0 c1 c2 c3 c4 cf hV hVv hn hQ
  go_enter Try.func79, Try.ntmps79
  go_wp2_with fail
  go_loopw [3] (fun i wr => ∃ k : Nat, k ≤ n ∧ i = .int .i64 ((k : Int) + 1) ∧ (ups hs k).length < c ∧ Hid (∃ v', WL wr V w.heap.size v' (ups hs k)) ∧ Hid (KV V w.heap.size w wr) ∧ Hid (Below V w wr)) (fun i _ => n + 1 - (intOf i).toNat)
  case atStart => exact ⟨0, Nat.zero_le _, rfl, by simp [ups]; omega, H0, Lib.hid (KV.refl _ _ _), Lib.hid (Below.refl _ _)⟩
  case round =>
    clear H0 hD
    obtain ⟨k, hk, rfl, hlc, HW, HK, HB⟩ := hrel
    obtain ⟨d0, d1, d2, d3⟩ := hk0.out _ HK.out
    by_cases hlt : k < n
    · obtain ⟨g, cap, rfl, hg, hgV, hck⟩ := hcell.out k hlt
      have hck := (cell_heap (HK.out.2 g hg hgV)).trans hck
      have hbl : g < wr.heap.size := World.block_lt_of_cell? wr _ hck
      have e1 : (k : Int) + 1 - 1 = (k : Int) := by omega
      have e3 : (k : Int) < (n : Int) := by omega
      have e4 : (k : Int) + 1 ≤ (n : Int) := by omega
      have e5 : (0 : Int) ≤ (k : Int) := by omega
      have e6 : (k : Int).toNat = k := by omega
      have e7 : IntKind.i64.wrap (k : Int) = (k : Int) := by rw [IntKind.wrap_i64]; omega
      obtain ⟨hb, hhb⟩ : ∃ hb, hs.getD k false = hb := ⟨_, rfl⟩
      rw [hhb] at hck
      have HHB := Lib.hid hhb
      clear hhb
      cases hb
      · have HE : Hid (ups hs k = ups hs (k + 1)) := Lib.hid (ups_miss hs k HHB.out)
        rw [HE.out] at HW hlc
        go_wp2_with fail
        go_roundw
        case rel => exact ⟨k + 1, by omega, by go_num, hlc, HW, HK, HB⟩
        case measure => simp [intOf]; omega
      · have HE : Hid (ups hs k ++ [(k : Int) + 1] = ups hs (k + 1)) := Lib.hid (ups_succ hs k HHB.out)
        obtain ⟨v', hW⟩ := HW.out
        have hul := ups_le hs k
        obtain ⟨b, hb⟩ : ∃ b, decide (((((ups hs k).length + 1 : Nat)) : Int) < most) = b := ⟨_, rfl⟩
        have C := Lib.hid (each10_of V Q w.heap.size v' (ups hs k) ((k : Int) + 1) most b wr hW d1 hQl hVQ.symm (by omega) (Lib.hid hb))
        have HBB := Lib.hid hb
        clear hW hb HW
        have hul2 : Hid ((ups hs (k + 1)).length = (ups hs k).length + 1) := Lib.hid (by rw [← HE.out]; simp)
        cases b
        · go_wp2_with (first | (go_at_call 61; refine C.out.mono ?_; rintro e w5 ⟨rfl, v5, hW5, hK5, hB5⟩))
          refine bodyPost_ret (results_none rfl _ _ _) rfl ?_
          rw [HE.out] at hW5
          have hm := HBB.out
          simp only [decide_eq_false_iff_not] at hm
          have hul3 := hul2.out
          have hpre := ups_pre hs (k + 1) (hs.length - (k + 1))
          rw [show k + 1 + (hs.length - (k + 1)) = hs.length by have := HN.out; omega] at hpre
          have htk := prefix_take (c := c) hpre (by omega)
          exact ⟨⟨_, rfl⟩, w.heap.size, v5, by rw [htk]; exact hW5, Nat.le_refl _, HK.out.trans hK5, HB.out.trans hB5⟩
        · have hm := HBB.out
          simp only [decide_eq_true_eq] at hm
          go_wp2_with (first | (go_at_call 61; refine C.out.mono ?_; rintro e w5 ⟨rfl, v5, hW5, hK5, hB5⟩))
          rw [HE.out] at hW5
          have H5 : Hid (∃ v', WL w5 V w.heap.size v' (ups hs (k + 1))) := Lib.hid ⟨v5, hW5⟩
          have K5 := Lib.hid (HK.out.trans hK5)
          have B5 := Lib.hid (HB.out.trans hB5)
          clear hW5 hK5 hB5
          go_roundw
          case rel => exact ⟨k + 1, by omega, by go_num, by have := hul2.out; omega, H5, K5, B5⟩
          case measure => simp [intOf]; omega
    · obtain rfl : k = n := by omega
      have e4 : ¬ (k : Int) + 1 ≤ (k : Int) := by omega
      go_wp2_with fail
      go_end0
      obtain ⟨v', hW⟩ := HW.out
      exact ⟨⟨_, rfl⟩, w.heap.size, ⟨v', by rw [HN.out, List.take_of_length_le (by omega)]; exact hW⟩, Nat.le_refl _, HK.out, HB.out⟩
theorem allf10_of (p0 : Option Addr) (w : World) : Calls Try.prog 60 #[.pointer p0] w fun e w' => e = .returned (.func (.func 79) #[] #[.pointer (some ⟨w.heap.size, 0, none⟩)]) ∧ w' = w.alloc (.cells #[.pointer p0] 24) := by
  go_enter Try.func60, Try.ntmps60
  go_wp2_with fail
  go_ret
  exact ⟨rfl, rfl⟩
theorem alls10_nil (F : Value) (f : Fn) (a b : Array Value) (D : Nat) (w : World) (hF : F = .func f a b) (hD : w.cell? ⟨D, 0, none⟩ = some (.pointer none)) : Calls Try.prog 79 #[F, .pointer (some ⟨D, 0, none⟩)] w fun e w' => (∃ r, e = .returned r) ∧ w' = w := by
  subst hF
  go_enter Try.func79, Try.ntmps79
  go_wp2_with fail
  refine bodyPost_ret (results_none rfl _ _ _) rfl ?_
  exact ⟨⟨_, rfl⟩, rfl⟩
theorem three (w : World) (o0 o1 o2 : Obj) : (((w.alloc o0).alloc o1).alloc o2).heap[w.heap.size]? = some o0 ∧ (((w.alloc o0).alloc o1).alloc o2).heap[w.heap.size + 1]? = some o1 ∧ (((w.alloc o0).alloc o1).alloc o2).heap[w.heap.size + 2]? = some o2 := by
  refine ⟨?_, ?_, ?_⟩ <;> show (((w.heap.push _).push _).push _)[_]? = _
  · rw [Array.getElem?_push, if_neg (by simp; omega), Array.getElem?_push, if_neg (by simp), Array.getElem?_push, if_pos rfl]
  · rw [Array.getElem?_push, if_neg (by simp), Array.getElem?_push, if_pos (by simp)]
  · rw [Array.getElem?_push, if_pos (by simp)]
set_option maxRecDepth 20000 in
set_option maxHeartbeats 1000000 in
theorem all10_of (A B c : Nat) (S : Nat → Prop) (m p most : Int) (hv bv : Value) (hs : List Bool) (bk : List Int) (w : World) (h : AS S B A w m (hs.length : Int) p hv bv hv bv hs bk) (hl : hs.length ≤ 1000) (hc : max most 1 = (c : Int)) :
    Calls Try.prog 24 #[.pointer (some ⟨A, 0, none⟩), .int .i64 most] w (AllPost ((ups hs hs.length).take c) w) := by
  have nfn := fun f a b => eq_fn10 f a b
  obtain ⟨W, hW⟩ : ∃ W, ((w.alloc (.cells #[.int .i64 most] 3)).alloc (.cells #[.slice none 0 0] 34)).alloc (.cells #[.pointer (some ⟨A, 0, none⟩)] 24) = W := ⟨_, rfl⟩
  have b0 : Below w.heap.size w W := by rw [← hW]; go_grown
  obtain ⟨h1, h2, h3⟩ := three w (.cells #[.int .i64 most] 3) (.cells #[.slice none 0 0] 34) (.cells #[.pointer (some ⟨A, 0, none⟩)] 24)
  rw [hW] at h1 h2 h3
  have cQ : W.cell? ⟨w.heap.size, 0, none⟩ = some (.int .i64 most) := by simp only [World.cell?, h1]; rfl
  have cD : W.cell? ⟨w.heap.size + 2, 0, none⟩ = some (.pointer (some ⟨A, 0, none⟩)) := by simp only [World.cell?, h3]; rfl
  have C := Lib.hid (alls10_of (w.heap.size + 1) w.heap.size (w.heap.size + 2) A B c S m p most hv bv hs bk W (h.below b0) hl hc cD cQ h2 (by have := h.lt; omega) (by omega) (by omega) (fun e => by have := (h.rh.lt _ e).2; omega))
  have HB0 := Lib.hid b0
  clear h b0 h1 h2 h3 cQ cD
  go_enter Try.func24, Try.ntmps24
  go_wp2_with fail
  refine (allf10_of _ _).mono ?_
  rintro e w1 ⟨rfl, rfl⟩
  rw [World.size_alloc, World.size_alloc]
  rw [hW]
  clear hW
  go_wp2_with fail
  refine C.out.mono ?_
  rintro e w2 ⟨⟨r, rfl⟩, B', v', hWL, hB', hK, hb⟩
  have c0 : w2.cell? ⟨w.heap.size + 1, 0, none⟩ = some v' := by simp [World.cell?, hWL.c]
  obtain ⟨a, cap, rfl, _⟩ := OI.form hWL.r
  have hfin : OI w2 w.heap.size (.slice a ((ups hs hs.length).take c).length cap) ((ups hs hs.length).take c) := hWL.r.base (by have := HB0.out.size; omega)
  have hbf : Below w.heap.size w w2 := HB0.out.trans (hb.mono (by omega))
  have FIN := Lib.hid (And.intro hfin hbf)
  clear hWL hK hb hfin hbf C
  generalize ((ups hs hs.length).take c).length = L at *
  go_wp2_with fail
  go_ret
  exact ⟨_, rfl, FIN.out⟩
set_option maxRecDepth 20000 in
theorem all10_nil (most : Int) (w : World) : Calls Try.prog 24 #[.pointer none, .int .i64 most] w (AllPost [] w) := by
  have nfn := fun f a b => eq_fn10 f a b
  obtain ⟨W, hW⟩ : ∃ W, ((w.alloc (.cells #[.int .i64 most] 3)).alloc (.cells #[.slice none 0 0] 34)).alloc (.cells #[.pointer none] 24) = W := ⟨_, rfl⟩
  have b0 : Below w.heap.size w W := by rw [← hW]; go_grown
  obtain ⟨h1, h2, h3⟩ := three w (.cells #[.int .i64 most] 3) (.cells #[.slice none 0 0] 34) (.cells #[.pointer none] 24)
  rw [hW] at h1 h2 h3
  have cV : W.cell? ⟨w.heap.size + 1, 0, none⟩ = some (.slice none 0 0) := by simp only [World.cell?, h2]; rfl
  have cD : W.cell? ⟨w.heap.size + 2, 0, none⟩ = some (.pointer none) := by simp only [World.cell?, h3]; rfl
  have C := Lib.hid (alls10_nil (.func (.func 61) #[] #[.pointer (some ⟨w.heap.size + 1, 0, none⟩), .pointer (some ⟨w.heap.size, 0, none⟩)]) _ _ _ (w.heap.size + 2) W rfl cD)
  have HB0 := Lib.hid b0
  clear b0 h1 h2 h3 cD
  go_enter Try.func24, Try.ntmps24
  go_wp2_with fail
  refine (allf10_of _ _).mono ?_
  rintro e w1 ⟨rfl, rfl⟩
  rw [World.size_alloc, World.size_alloc]
  rw [hW]
  clear hW
  go_wp2_with fail
  refine C.out.mono ?_
  rintro e w2 ⟨⟨r, rfl⟩, rfl⟩
  go_wp2_with fail
  go_ret
  exact ⟨_, rfl, World.ownsRow_nil _ _ _ _, HB0.out⟩
/-- Those of the first k numbers that are in a list. -/
def ris (xs : List Int) : Nat → List Int
  | 0 => []
  | k + 1 => if hasB xs ((k : Int) + 1) then ris xs k ++ [(k : Int) + 1] else ris xs k
set_option maxRecDepth 20000 in
set_option maxHeartbeats 1000000 in
theorem rising_of (v : Value) (xs : List Int) (q : Nat) (w : World) (h : View w v xs) (hl : xs.length ≤ 2000) (hq : q ≤ 2000) : Calls Try.prog 22 #[v, .int .i64 (q : Int)] w (fun e w' => ∃ v', e = .returned v' ∧ OI w' w.heap.size v' (ris xs q) ∧ Below w.heap.size w w' ∧ (ris xs q = [] → v' = .slice none 0 0)) := by
  have H := Lib.hid h
  have hF : Hid (OI w w.heap.size (.slice none 0 0) []) := Lib.hid (World.ownsRow_nil _ _ _ _)
  have hF0 : Hid (ris xs 0 = []) := Lib.hid rfl
  clear h
  go_enter Try.func22, Try.ntmps22
  go_wp2_with fail
  go_loopw [5, 6] (fun sv i wr => ∃ (k : Nat) (ys : List Int), k ≤ q ∧ ys.length ≤ k ∧ i = .int .i64 ((k : Int) + 1) ∧ Hid (OI wr w.heap.size sv ys) ∧ Hid (ris xs k = ys) ∧ Hid (Below w.heap.size w wr) ∧ Hid (ys = [] → sv = .slice none 0 0)) (fun _ i _ => q + 1 - (intOf i).toNat)
  case atStart => exact ⟨0, [], by omega, by simp, rfl, hF, hF0, Lib.hid (Below.refl _ _), Lib.hid (fun _ => rfl)⟩
  case round =>
    clear hF hF0
    obtain ⟨k, ys, hk, hyl, rfl, HO, HY, HB, HE⟩ := hrel
    by_cases hlt : k < q
    · have e1 : (k : Int) + 1 ≤ (q : Int) := by omega
      have C := Lib.hid (has_of v xs ((k : Int) + 1) wr (H.out.below HB.out) (by omega))
      obtain ⟨b, hb⟩ : ∃ b, hasB xs ((k : Int) + 1) = b := ⟨_, rfl⟩
      rw [hb] at C
      have HBB := Lib.hid hb
      clear hb
      cases b
      · have HY2 : Hid (ris xs (k + 1) = ys) := Lib.hid (by unfold ris; rw [HBB.out, HY.out]; rfl)
        go_wp2_with (first | (go_at_call 21; refine C.out.mono ?_; rintro e w1 ⟨rfl, rfl⟩))
        go_roundw
        case rel => exact ⟨k + 1, ys, by omega, by omega, by go_num, HO, HY2, HB, HE⟩
        case measure => simp [intOf]; omega
      · have HY2 : Hid (ris xs (k + 1) = ys ++ [(k : Int) + 1]) := Lib.hid (by unfold ris; rw [HBB.out, HY.out]; rfl)
        obtain ⟨u, hu⟩ : ∃ u, (k : Int) + 1 = u := ⟨_, rfl⟩
        have hn1 : Below wr.heap.size wr (wr.alloc (.cells #[.int .i64 ((k : Int) + 1)] 3)) := by go_grown
        have HN1 := Lib.hid hn1
        have R1 := Lib.hid (HO.out.below hn1)
        have hs1 := HB.out.size
        have hz : w.heap.size ≤ (wr.alloc (.cells #[.int .i64 ((k : Int) + 1)] 3)).heap.size := by simp; omega
        clear hn1 hu
        go_wp2_with (first | (go_at_call 21; refine C.out.mono ?_; rintro e w1 ⟨rfl, rfl⟩) | ((at_builtin; refine wpList_app1 rfl _ _ rfl w.heap.size _ ys rfl ⟨w1.heap.size, 0, none⟩ 1 rfl ((k : Int) + 1) R1.out (by go_simp) rfl (by omega) hz ?_)))
        intro v2 W3 hr2 hg2 ho2
        replace hr2 : OI W3 w.heap.size v2 (ys ++ [(k : Int) + 1]) := by unfold OI; simpa using hr2
        have HR3 := Lib.hid hr2
        have HB3 : Hid (Below w.heap.size w W3) := Lib.hid ((HB.out.trans (HN1.out.mono hs1)).grown hg2 hz (fun k e => (own_lt R1.out e).1))
        clear hr2 hg2 ho2 R1
        go_wp2_with fail
        go_roundw
        case rel => exact ⟨k + 1, ys ++ [(k : Int) + 1], by omega, by simp; omega, by go_num, HR3, HY2, HB3, Lib.hid (fun e => by simp at e)⟩
        case measure => simp [intOf]; omega
    · obtain rfl : k = q := by omega
      have e1 : ¬ (k : Int) + 1 ≤ (k : Int) := by omega
      go_wp2_with fail
      go_ret
      exact ⟨_, rfl, by rw [HY.out]; exact HO.out, HB.out, fun e => HE.out (by rw [← HY.out]; exact e)⟩
end Go.Proofs.Ytajmmglfdinahaa.rf
