/- The document's strands of marks: Build; one answer only (layer 30). -/
import Derived.Test.YtgbaaemocnjaoaaDgL
namespace Go.Proofs.Ytgbaaemocnjaoaa.dg
open Go.ChangeShapes Go.WideShapes Go.ChangeAt Go.RowKit
open Go.Proofs.Ytgbaaemocnjaoaa.ro Go.Proofs.Ytgbaaemocnjaoaa.sn
attribute [local go_sem ↓] Go.wp_at_zero Go.wp_at_succ
set_option linter.unusedVariables false
set_option linter.unusedSimpArgs false
theorem steps_pre : ∀ {l : List Mk} {s s' : PS}, sn.Steps s l s' → ∀ k, k < l.length → errC (l.getD k (0, 0, 0)).1 (l.getD k (0, 0, 0)).2.1 (topF (runF s (l.take k))) (runF s (l.take k)).P.length = 0
  | [], s, s', h, k, hk => by simp at hk
  | m :: l, s, s', h, 0, hk => by
    obtain ⟨f, s1, h1, h2, h3, h4⟩ := h
    have := topF_of h1
    rw [this] at h2
    exact h2
  | m :: l, s, s', h, k + 1, hk => by
    obtain ⟨f, s1, h1, h2, h3, h4⟩ := h
    have := steps_pre h4 k (by simpa using hk)
    rw [h3.next] at this
    exact this
theorem fails_ok {L : List Mk} {c : Int} {s : PS} (h : Fails L c) (hs : sn.Steps s0 L s) : c = 0 := by
  obtain ⟨k, hk, e⟩ := h.run
  rw [← e]
  exact steps_pre hs k hk
theorem fails_lt {L : List Mk} {c : Int} {k k' : Nat} {s' : PS} (hkk : k < k') (hk' : k' < L.length) (h : errC (L.getD k (0, 0, 0)).1 (L.getD k (0, 0, 0)).2.1 (topF (runF s0 (L.take k))) (runF s0 (L.take k)).P.length = c) (hs : sn.Steps s0 (L.take k') s') : c = 0 := by
  have := steps_pre hs k (by rw [List.length_take]; omega)
  rw [List.take_take, Nat.min_eq_left (by omega)] at this
  have e : (L.take k').getD k (0, 0, 0) = L.getD k (0, 0, 0) := by
    rw [List.getD_eq_getElem?_getD, List.getElem?_take_of_lt hkk, ← List.getD_eq_getElem?_getD]
  rw [e, h] at this
  exact this
theorem fails_one {L : List Mk} {c c' : Int} (h : Fails L c) (h' : Fails L c') (hc : c ≠ 0) (hc' : c' ≠ 0) : c = c' := by
  obtain ⟨k, f, s, hk, h1, h2, h3⟩ := h
  obtain ⟨k', f', s', hk', h1', h2', h3'⟩ := h'
  have e := h3
  have e' := h3'
  rw [topF_of h2, h1.run] at e
  rw [topF_of h2', h1'.run] at e'
  rcases Nat.lt_trichotomy k k' with hl | rfl | hl
  · exact absurd (fails_lt hl hk' e h1') hc
  · exact e.symm.trans e'
  · exact absurd (fails_lt hl hk e' h1) hc'
theorem DB.dv {w0 w : World} {r : Ro} {b : Nat} {lv : Value} {x : Dx} (h : DB w0 w r b lv x) : MV w x.pv x.P ∧ RV 3 enN w x.nv x.N ∧ RV 3 enA w x.av x.A := by
  refine ⟨?_, OR.rv recN h.p.no.o, OR.rv recA h.p.ac.o⟩
  obtain ⟨a, cap, h1, h2, h3, h4⟩ := RR.form recS h.p.pr
  refine ⟨a, cap, by rw [h1, h.p.pl], by rw [← h.p.pl]; exact h2, h3, fun i hi => ?_⟩
  have hi' : i < x.us.length := by rw [h.p.pl]; exact hi
  obtain ⟨g, rfl, hg, hc⟩ := h4 i x.us[i] (List.getElem?_eq_getElem hi')
  have hp := h.p.pe i _ (List.getElem?_eq_getElem hi')
  exact ⟨g, 0, sl x.us[i], rfl, hg, by simpa using hc 0 _ rfl, view_of_rv hp.o⟩
def BuildD (w : World) (lv : Value) (L : List Mk) (e : Ending) (w' : World) : Prop :=
  ∃ (D : Nat) (c : Int) (l2 : Value) (x : Dx), e = .returned (.tuple #[.pointer (some ⟨D, 0, none⟩), .int .i64 c]) ∧ Below w.heap.size w w' ∧ w'.heap[D]? = some (.cells (x.cs l2) 61 (0, 0)) ∧ ((c ≠ 0 ∧ Fails L c ∧ x.pv = .slice none 0 0 ∧ x.nv = .slice none 0 0 ∧ x.av = .slice none 0 0) ∨ (c = 0 ∧ ∃ s, sn.Steps s0 L s ∧ MV w' x.pv s.P ∧ RV 3 enN w' x.nv s.N ∧ RV 3 enA w' x.av s.A))
def xd0 : Dx := ⟨0, .slice none 0 0, .slice none 0 0, .slice none 0 0, [], [], [], [], false, 0⟩
theorem db0 (w w1 : World) (lv : Value) (hb : Below w.heap.size w w1) (h1 : w1.heap[w.heap.size]? = some (.cells (xd0.cs lv) 61 (0, 0))) : DB w w1 (fun k => if k = w.heap.size then 1 else 0) w.heap.size lv xd0 :=
  ⟨⟨if_pos rfl, RR.nil _ _ _ _, RR.nil _ _ _ _, RR.nil _ _ _ _, rfl, fun i u hu => by simp [xd0] at hu, fun k hk => if_neg (by omega), hb⟩, h1⟩
set_option maxHeartbeats 2000000 in
set_option maxRecDepth 20000 in
theorem build_doc (w : World) (a : Option Addr) (n cap : Nat) (L : List Mk) (h : RV 3 enN w (.slice a n cap) L) (hn : n ≤ 5000) :
    Calls Try.prog 9 #[.slice a n cap] w (BuildD w (.slice a n cap) L) := by
  have hL := (RV.len h).1
  obtain ⟨W1, hW1⟩ : ∃ W1, w.alloc (.cells #[.slice a n cap, .int .i64 0, .slice none 0 0, .slice none 0 0, .slice none 0 0, .bool false, .int .i64 0] 61) = W1 := ⟨_, rfl⟩
  have hb1 : Below w.heap.size w W1 := by rw [← hW1]; go_grown
  have hN1 := heap_new w (.cells #[.slice a n cap, .int .i64 0, .slice none 0 0, .slice none 0 0, .slice none 0 0, .bool false, .int .i64 0] 61)
  rw [hW1] at hN1
  have hD1 := db0 w W1 (.slice a n cap) hb1 hN1
  have CB0 := begin_yes w W1 _ w.heap.size (.slice a n cap) xd0 (0, 0, 0) (none, 0, 0) [] hD1 (RD.nil _ _ _) (by simp [xd0]) (by simp [xd0]) (by simp [xd0])
  unfold sl at CB0
  dsimp only at CB0
  have CB := Lib.hid CB0
  have HV := Lib.hid h
  have HL := Lib.hid hL
  have HW1 := Lib.hid hW1
  clear CB0 hD1 hb1 hN1 hW1 h hL
  go_enter Try.func9, Try.ntmps9
  go_wp2_with fail
  rw [HW1.out]
  refine CB.out.mono ?_
  rintro e w2 ⟨rfl, r2, pv, nv, us, hD2, hk2⟩
  have hA2 : At L { xd0 with pv := pv, nv := nv, us := us, P := [[]], N := [((0 : Int), (0 : Int), (0 : Int))] } ([] ++ [rootF]) := ⟨rfl, rfl, Nat.zero_le _, rfl⟩
  have CF : Hid (Calls Try.prog 15 #[.pointer (some ⟨w.heap.size, 0, none⟩), .int .i64 0, .agg #[.int .i64 0, .int .i64 0, .int .i64 0], .int .i64 0, .slice none 0 0] w2 (FrQ w w2 r2 w.heap.size (.slice a n cap) L 8 [] 0 0)) := Lib.hid ((both L (L.length + 1)).1 (Nat.le_refl _) HV.out hn HL.out hD2 hA2 (by show L.length - 0 < _; omega) (.inl ⟨rfl, rfl⟩) rfl rfl rfl (RD.nil _ _ _) rfl)
  clear CB hD2 hk2 hA2
  go_wp2_with fail
  refine CF.out.mono ?_
  rintro e w3 ⟨r3, x3, v3, rfl, hD3, hk3, h3⟩
  have hd3 : Done L x3 := by
    rcases h3 with ⟨-, -, hd⟩ | ⟨_, _, _, _, _, _, _, _, _, ⟨h, _⟩ | ⟨h, _⟩⟩
    · exact hd
    · cases h
    · cases h
  have o6 : w3.cell? ⟨w.heap.size, 6, none⟩ = some (.int .i64 x3.er) := hD3.cells.2.2.2.2.2.2.1
  have b3 := lt_of hD3.o
  have hB3 := hD3.p.b
  rcases hd3 with ⟨he, s, hs, eP, eN, eA⟩ | ⟨he, hf⟩
  · rw [he] at o6
    have HX := Lib.hid (And.intro hD3 (And.intro hs (And.intro eP (And.intro eN eA))))
    clear CF h3 hk3 hD3 hs eP eN eA
    go_wp2_with fail
    refine bodyPost_ret (v := .tuple #[.pointer (some ⟨w.heap.size, 0, none⟩), .int .i64 0]) (by simp [results, Try.results9, go_sem]) rfl ⟨w.heap.size, 0, _, x3, rfl, hB3, HX.out.1.o, .inr ⟨rfl, s, HX.out.2.1, ?_⟩⟩
    obtain ⟨_, _, eP, eN, eA⟩ := HX.out
    rw [eP, eN, eA]
    exact HX.out.1.dv
  · obtain ⟨er, her⟩ : ∃ er, x3.er = er := ⟨_, rfl⟩
    rw [her] at o6 he hf
    have heb : (er != 0) = true := by simpa using he
    have HF := Lib.hid hf
    clear CF h3 hk3 hD3 hf her
    go_wp2_with fail
    go_region
    go_wp2_with fail
    refine bodyPost_ret (v := .tuple #[.pointer (some ⟨w3.heap.size, 0, none⟩), .int .i64 er]) (by simp [results, Try.results9, go_sem]) rfl ⟨w3.heap.size, er, .slice none 0 0, xd0, rfl, (by go_grown), ?_, .inl ⟨he, HF.out, rfl, rfl, rfl⟩⟩
    first | exact heap_new w3 _ | exact heap_new w3.drew _ | exact heap_new (w3.drewN _) _
end Go.Proofs.Ytgbaaemocnjaoaa.dg
