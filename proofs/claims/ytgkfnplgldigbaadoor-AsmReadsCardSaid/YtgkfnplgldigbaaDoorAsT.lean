/- A further line of a program (layer 6). -/
import Derived.Test.YtgkfnplgldigbaaDoorAsS
import Derived.Test.YtgkfnplgldigbaaDoorAsC
namespace Go.Proofs.YtgkfnplgldigbaaDoor.asm
open Go.ChangeShapes Go.WideShapes Go.ChangeAt Go.RowKit
open Go.Proofs.YtgkfnplgldigbaaDoor.st Go.Proofs.YtgkfnplgldigbaaDoor.wd
open Go.Proofs.YtgkfnplgldigbaaDoor.pr (enI recI infoI infoC PM OP own_ltP NB rec_new step_appR wpList_appP)
set_option linter.unusedVariables false
set_option linter.unusedSimpArgs false
section
variable {w0 wB w w' : World} {b : Bool} {m : Int} {fs fs' : List (List I4)} {v v' : Value} {rows rows' : List Value}
theorem RS.app (h : RS w0 wB w b m fs v rows) (hg : w.grownBy w' v.ownBlock) (ho : OP w' wB.heap.size v' rows' fs') (hn : ∀ r u, rows' = r ++ [u] → NB r u) : RS w0 wB (w'.setCell ⟨w0.heap.size + 1, 1, none⟩ v') b m fs' v' rows' ∧ w'.heap[w0.heap.size + 1]? = some (.cells #[.int .i64 m, v] 32 (0, 0)) := by
  have hlt := h.lt
  have hlo := h.lo
  have hu := own_ltP h.own.1
  have hne : ∀ k, k < wB.heap.size → some k ≠ v.ownBlock := fun k hk e => by have := hu k e.symm; omega
  have r1 := (hg.block _ (by omega) (hne (w0.heap.size + 1) (by omega))).trans h.r1
  have hsz : w.heap.size ≤ w'.heap.size := hg.size
  exact ⟨⟨(st.set_oth _ _ _ _ _ (by omega)).trans ((hg.block _ (by omega) (hne _ (by omega))).trans h.r0), st.set_blk _ _ _ _ r1, (st.set_oth _ _ _ _ _ (by omega)).trans ((hg.block _ (by omega) (hne _ (by omega))).trans h.r2), ho.keep (fun k hk => st.set_oth _ _ _ _ _ (by omega)), hn, (h.bel.grown hg (by omega) (fun k e => by have := hu k e; omega)).setCell (p := ⟨w0.heap.size + 1, 1, none⟩) (by show w0.heap.size ≤ w0.heap.size + 1; omega) _, ⟨by rw [st.set_size]; exact Nat.le_trans h.kp.1 hsz, fun k hk h1 h2 => (st.set_oth _ _ _ _ _ h1).trans ((hg.block k (Nat.lt_of_lt_of_le hk h.kp.1) (hne k hk)).trans (h.kp.2 k hk h1 h2))⟩, hlo⟩, r1⟩
theorem NB_nil (rows : List Value) : NB rows (.slice none 0 0) := fun i x hx g hg e => by simp [Value.ownBlock] at e
theorem RS.push (h : RS w0 wB w b m fs v rows) (hg : w.grownBy w' v.ownBlock) (ho : OP w' wB.heap.size v' (rows ++ [.slice none 0 0]) (fs ++ [[]])) : RS w0 wB (w'.setCell ⟨w0.heap.size + 1, 1, none⟩ v') b m (fs ++ [[]]) v' (rows ++ [.slice none 0 0]) ∧ w'.heap[w0.heap.size + 1]? = some (.cells #[.int .i64 m, v] 32 (0, 0)) :=
  h.app hg ho fun r u e => by
    obtain ⟨_, e2⟩ := List.append_inj' e rfl
    obtain rfl : Value.slice none 0 0 = u := by simpa using e2
    exact NB_nil _
end
/-- what the last append reads. -/
structure SX (w0 w' : World) (m : Int) (v : Value) (g L X : Nat) (u : Value) (x : I4) : Prop where
  p : w'.heap[w0.heap.size + 1]? = some (.cells #[.int .i64 m, v] 32 (0, 0))
  c : w'.cell? ⟨g, L, none⟩ = some u
  f : w'.frozen? ⟨g, L, none⟩ = false
  x : w'.heap[X]? = some (.cells #[.int .i64 x.1, .int .i64 x.2.1, .int .i64 x.2.2.1, .int .i64 x.2.2.2] 23 (0, 0))
theorem OP.lastAt {w : World} {B : Nat} {v u : Value} {rows : List Value} {acc : List (List I4)} {c : List I4} (h : OP w B v (rows ++ [u]) (acc ++ [c])) : ∃ g cap, v = .slice (some ⟨g, 0, none⟩) (acc.length + 1) cap ∧ acc.length + 1 ≤ cap ∧ B ≤ g ∧ g < w.heap.size ∧ w.cell? ⟨g, acc.length, none⟩ = some u ∧ w.frozen? ⟨g, acc.length, none⟩ = false ∧ OR 4 enI w B 23 u c := by
  obtain ⟨g, cap, rows', u', e1, e2, e3, e4, e5, e6, e7, e8, e9⟩ := h.last (by simp)
  obtain ⟨_, e⟩ := List.append_inj' e3 rfl
  obtain rfl : u = u' := by simpa using e
  simp only [List.length_append, List.length_singleton] at e1 e2 e7 e8
  refine ⟨g, cap, e1, e2, e5, e6, e7, e8, ?_⟩
  simpa using e9
theorem rows_snoc {w : World} {B : Nat} {v : Value} {rows : List Value} {acc : List (List I4)} {c : List I4} (h : OP w B v rows (acc ++ [c])) : ∃ rows' u, rows = rows' ++ [u] := by
  obtain ⟨g, cap, rows', u', e1, e2, e3, _⟩ := h.last (by simp)
  exact ⟨rows', u', e3⟩
theorem RS.last {w0 wB wa w2 : World} {b : Bool} {m : Int} {acc : List (List I4)} {c : List I4} {v u v2 : Value} {rows : List Value} {g cap X : Nat} {x : I4} (h : RS w0 wB wa b m (acc ++ [c]) v (rows ++ [u])) (hv : v = .slice (some ⟨g, 0, none⟩) (acc.length + 1) cap) (hx : SX w0 wa m v g acc.length X u x) (hX : X < wa.heap.size) (hXo : ∀ k, u.ownBlock = some k → k ≠ X) (ho : OR 4 enI w2 wB.heap.size 23 v2 (c ++ [x])) (hg : wa.grownBy w2 u.ownBlock) (hor : v2.ownBlock = u.ownBlock ∨ v2.ownBlock = some wa.heap.size) : SX w0 w2 m v g acc.length X u x ∧ RS w0 wB (w2.setCell ⟨g, acc.length, none⟩ v2) b m (acc ++ [c ++ [x]]) v (rows ++ [v2]) := by
  obtain ⟨g', cap', e1, e2, e3, e4, e5, e6, e7⟩ := OP.lastAt h.own
  rw [hv] at e1
  simp only [Value.slice.injEq, Option.some.injEq, Addr.mk.injEq, true_and] at e1
  obtain ⟨⟨rfl, _⟩, rfl⟩ := e1
  have hlt := h.lt
  have hlo := h.lo
  have hu := fun k (e : u.ownBlock = some k) => e7.lt k e
  have hne : ∀ k, k < wB.heap.size → some k ≠ u.ownBlock := fun k hk e => by have := hu k e.symm; omega
  have hnb := h.nb rows u rfl
  obtain ⟨q1, q2⟩ := h.own.grownU hnb hg
  have hgu : some g ≠ u.ownBlock := by
    intro e
    obtain ⟨_, ⟨rfl, _⟩ | ⟨g3, cap3, cur3, rfl, _, hh3, _⟩⟩ := e7
    · simp [Value.ownBlock] at e
    · simp [Value.ownBlock] at e
      subst e
      obtain ⟨_, ⟨h0, _⟩ | ⟨g4, cap4, cur4, e, _, hh4, _⟩⟩ := h.own.1
      · rw [hv] at h0; cases h0
      · rw [hv] at e
        simp only [Value.slice.injEq, Option.some.injEq, Addr.mk.injEq] at e
        obtain ⟨⟨rfl, _⟩, _⟩ := e
        rw [hh3] at hh4
        simp at hh4
  have hgb := hg.block g e4 hgu
  have hsz : wa.heap.size ≤ w2.heap.size := hg.size
  refine ⟨⟨(hg.block _ (by omega) (hne _ (by omega))).trans hx.p, ?_, ?_, (hg.block X hX (fun e => hXo X e.symm rfl)).trans hx.x⟩, ?_⟩
  · have := hx.c
    simp only [World.cell?, hgb] at this ⊢
    exact this
  · have := hx.f
    simp only [World.frozen?, hgb] at this ⊢
    exact this
  · have hr1 : w2.heap[w0.heap.size + 1]? = some (.cells #[.int .i64 m, v] 32 (0, 0)) := (hg.block _ (by omega) (hne _ (by omega))).trans h.r1
    have own2 : OP (w2.setCell ⟨g, acc.length, none⟩ v2) wB.heap.size v (rows ++ [v2]) (acc ++ [c ++ [x]]) := by
      rw [hv] at q1 ⊢
      have q1' : w2.ownsRow wB.heap.size 44 1 (.slice (some ⟨g, 0, none⟩) (acc ++ [c]).length cap) (acc ++ [c]).length (rows ++ [u]) := by
        have e : acc.length + 1 = (acc ++ [c]).length := by simp
        rw [← e]
        rw [← e] at q1
        exact q1
      have := pr.OP.setLast (w := wa) q1' q2 ho
      have e : acc.length + 1 = (acc ++ [c]).length := by simp
      rw [e]
      exact this
    refine ⟨(st.set_oth _ _ _ _ _ (by omega)).trans ((hg.block _ (by omega) (hne _ (by omega))).trans h.r0), (st.set_oth _ _ _ _ _ (by omega)).trans hr1, (st.set_oth _ _ _ _ _ (by omega)).trans ((hg.block _ (by omega) (hne _ (by omega))).trans h.r2), own2, ?_, (h.bel.grown hg (by omega) (fun k e => by have := hu k e; omega)).setCell (p := ⟨g, acc.length, none⟩) (by show w0.heap.size ≤ g; omega) _, ⟨by rw [st.set_size]; exact Nat.le_trans h.kp.1 hsz, fun k hk h1 h2 => (st.set_oth _ _ _ _ _ (by omega)).trans ((hg.block k (Nat.lt_of_lt_of_le hk h.kp.1) (hne k hk)).trans (h.kp.2 k hk h1 h2))⟩, hlo⟩
    intro r u3 e
    obtain ⟨rfl, e2⟩ := List.append_inj' e rfl
    obtain rfl : v2 = u3 := by simpa using e2
    intro i y hy k hk e3
    rcases hor with h1 | h1
    · exact hnb i y hy k hk (h1 ▸ e3)
    · have hy2 : (rows ++ [u])[i]? = some y := by
        have := (List.getElem?_eq_some_iff.1 hy).1
        rw [List.getElem?_append_left this]
        exact hy
      have := ((pr.row_block h.own hy2).lt k hk).2
      rw [h1] at e3
      simp at e3
      omega
set_option maxRecDepth 20000 in
set_option maxHeartbeats 1600000 in
theorem tl_v (w0 wB w : World) (m : Int) (fs : List (List I4)) (v : Value) (rows : List Value) (l : List UInt8) (a : Option Addr) (n c : Nat) (hR : RS w0 wB w true m fs v rows) (hS : SV w (.slice a n c) (fldV l)) (hN : ins.NM w) (hM : wd.NM w) (hl : l.length ≤ 100000) (hf1 : fs.length ≤ 100000) (hf2 : (fs.getLastD []).length ≤ 1000000) :
    Calls Tryd.prog 37 #[.pointer (some ⟨w0.heap.size + 1, 0, none⟩), .string ⟨l.toArray⟩, .slice a n c] w fun e w' => ∃ v' rows', e = .returned (.int .i64 (rd1 (true, m, fs) l).2) ∧ RS w0 wB w' true m (rd1 (true, m, fs) l).1.2.2 v' rows' := by
  have hn := hS.len.1
  have HR := Lib.hid hR
  have CP := Lib.hid (parse_v l w hl hN hM)
  by_cases hf : fldV l = [wFun]
  · have hr1 : rd1 (true, m, fs) l = ((true, m, fs ++ [[]]), 0) := by
      unfold rd1
      rw [if_neg (by simp), if_pos hf]
    rw [hr1]
    rw [hf] at hS hn
    obtain rfl : n = 1 := by simpa using hn
    obtain ⟨b0, o0, rfl, hb0, hc0⟩ := SV.at hS 0 (by omega)
    replace hc0 : w.cell? ⟨b0, o0 + 0, none⟩ = some (.string ⟨#[102, 117, 110, 99, 116, 105, 111, 110]⟩) := hc0
    rw [Nat.add_zero] at hc0
    have hp1 : w.cell? ⟨w0.heap.size + 1, 1, none⟩ = some v := cel hR.r1 1
    have hpf1 : w.frozen? ⟨w0.heap.size + 1, 1, none⟩ = false := frz hR.r1 1
    have hb1 : Below w.heap.size w (w.alloc (.cells #[.slice none 0 0] 44)) := by go_grown
    have HGW := Lib.hid (hR.below hb1)
    have hlt := hR.lt
    have hkp := hR.kp.1
    have hsz : wB.heap.size ≤ (w.alloc (.cells #[.slice none 0 0] 44)).heap.size := by simp; omega
    have huw : OR 4 enI (w.alloc (.cells #[.slice none 0 0] 44)) wB.heap.size 23 (.slice none 0 0) [] := OR.nil _ _ _
    have hab : fs.length ≤ 100000 := hf1
    clear hl hM hN hS hR hn hf hb1 CP hr1 hkp
    go_enter Tryd.func37, Tryd.ntmps37
    go_wp2_with ((at_builtin; refine wpList_appP rfl _ _ rfl wB.heap.size v rows fs rfl ⟨w.heap.size, 0, none⟩ 1 rfl (.slice none 0 0) [] HGW.out.own (by go_simp) huw rfl hab hsz ?_))
    intro v' w2 ho2 hg2 hb2
    obtain ⟨h2, hr1⟩ := HGW.out.push hg2 ho2
    have d1 : w2.cell? ⟨w0.heap.size + 1, 1, none⟩ = some v := cel hr1 1
    have e1 : w2.frozen? ⟨w0.heap.size + 1, 1, none⟩ = false := frz hr1 1
    obtain ⟨va', vc', rfl, _⟩ := ho2.pm.form
    have hlen : (fs ++ [([] : List I4)]).length = fs.length + 1 := by simp
    rw [hlen] at h2 ⊢
    have HX2 := Lib.hid h2
    clear hp1 hpf1 h2 hb2 hg2 ho2 hr1 huw hsz HR HGW hlen
    go_wp2_with fail
    go_ret
    exact ⟨_, _, rfl, HX2.out⟩
  · obtain ⟨va, vn, vc, rfl⟩ : ∃ va vn vc, v = .slice va vn vc := by
      obtain ⟨va, vc, e, _⟩ := hR.own.pm.form
      exact ⟨_, _, _, e⟩
    have HVN := Lib.hid (show vn = fs.length from hR.own.pm.len.1)
    have hr1 : rd1 (true, m, fs) l = if (parV l).2 ≠ 0 then ((true, m, fs), (parV l).2) else if fs = [] then ((true, m, fs), 8) else ((true, m, addI fs (parV l).1), 0) := by
      unfold rd1
      rw [if_neg (by simp), if_neg hf]
    rw [hr1]
    obtain ⟨pr0, hpr⟩ : ∃ p, parV l = p := ⟨_, rfl⟩
    rw [hpr] at CP ⊢
    obtain ⟨⟨y0, y1, y2, y3⟩, e0⟩ := pr0
    unfold PV IV at CP
    dsimp only at CP ⊢
    clear hr1 hpr
    by_cases hn1 : n = 1
    · subst hn1
      obtain ⟨b0, o0, rfl, hb0, hc0⟩ := SV.at hS 0 (by omega)
      rw [Nat.add_zero] at hc0
      obtain ⟨x, hx⟩ : ∃ x, (fldV l).getD 0 [] = x := ⟨_, rfl⟩
      rw [hx] at hc0
      have hxf : x ≠ wFun := by
        rintro rfl
        apply hf
        match h : fldV l, hn with
        | [y], _ =>
          rw [h] at hx
          simp at hx
          rw [hx]
      have hxb : (x == [102, 117, 110, 99, 116, 105, 111, 110]) = false := by rw [beq_eq_false_iff_ne]; exact hxf
      clear hx hxf hN hM hl hS hn hf
      by_cases he : e0 = 0
      · subst he
        rw [if_neg (by simp)]
        by_cases hfn : fs = []
        · rw [if_pos hfn]
          have hvn0 : vn = 0 := by rw [HVN.out, hfn]; rfl
          subst hvn0
          clear hR
          go_enter Tryd.func37, Tryd.ntmps37
          go_wp2_with fail
          refine CP.out.mono ?_
          rintro e w5 ⟨rfl, hb5⟩
          have hR5 := HR.out.below hb5
          have HR6 := Lib.hid (hR5.below (w' := w5.alloc (.cells #[.int .i64 y0, .int .i64 y1, .int .i64 y2, .int .i64 y3] 23)) (by go_grown))
          have hq1 : w5.cell? ⟨w0.heap.size + 1, 1, none⟩ = some (.slice va 0 vc) := cel hR5.r1 1
          have hlt5 := hR5.lt
          have hlt6 : w0.heap.size + 1 < w5.heap.size := by omega
          clear hb5 hR5 CP HR
          go_wp2_with fail
          go_ret
          exact ⟨_, _, rfl, HR6.out⟩
        · rw [if_neg hfn]
          obtain ⟨acc, cl, rfl⟩ : ∃ acc cl, fs = acc ++ [cl] := by
            rcases List.eq_nil_or_concat fs with h | ⟨acc, cl, h⟩
            · exact absurd h hfn
            · exact ⟨acc, cl, by simpa using h⟩
          rw [addI_snoc]
          obtain ⟨rows', u, rfl⟩ := rows_snoc hR.own
          have hcl : cl.length ≤ 1000000 := by simpa using hf2
          have hvn1 : vn = acc.length + 1 := by rw [HVN.out]; simp
          obtain ⟨L, hL⟩ : ∃ L, acc.length = L := ⟨_, rfl⟩
          have hLi : (vn : Int) - 1 = (L : Int) := by omega
          have hLn : ¬ (vn : Int) - 1 < 0 := by omega
          have hLn2 : (L : Int) < (vn : Int) := by omega
          have hLL := Lib.hid hL
          have hVN := Lib.hid hvn1
          have hvn2 : (vn : Int) ≤ 100001 := by simp at hf1; omega
          clear hR HVN hvn1 hf1 hf2 hfn hL
          go_enter Tryd.func37, Tryd.ntmps37
          go_wp2_with fail
          refine CP.out.mono ?_
          rintro e w5 ⟨rfl, hb5⟩
          have hR5 := HR.out.below hb5
          have hq1 : w5.cell? ⟨w0.heap.size + 1, 1, none⟩ = some (.slice va vn vc) := cel hR5.r1 1
          have hlt5 := hR5.lt
          have hlt6 : w0.heap.size + 1 < w5.heap.size := by omega
          obtain ⟨W, hW⟩ : ∃ W, w5.alloc (.cells #[.int .i64 y0, .int .i64 y1, .int .i64 y2, .int .i64 y3] 23) = W := ⟨_, rfl⟩
          have hbW : Below w5.heap.size w5 W := by rw [← hW]; exact (Below.refl _ _).alloc (Nat.le_refl _) _
          have hxW : W.heap[w5.heap.size]? = some (.cells #[.int .i64 y0, .int .i64 y1, .int .i64 y2, .int .i64 y3] 23 (0, 0)) := by rw [← hW]; exact heap_new w5 _ _
          have hRW := hR5.below hbW
          obtain ⟨X, hX⟩ : ∃ X, w5.heap.size = X := ⟨_, rfl⟩
          rw [hX] at hxW
          have HW := Lib.hid hW
          have HXX := Lib.hid hX
          obtain ⟨g, cap, hv, hcap, hBg, hgl, hcu, hfu, hou⟩ := OP.lastAt hRW.own
          rw [hLL.out, ← show vn = L + 1 by have := hVN.out; rw [hLL.out] at this; exact this] at hv
          rw [Value.slice.injEq] at hv
          obtain ⟨rfl, _, rfl⟩ := hv
          rw [hLL.out] at hcu hfu
          obtain ⟨ua, uc, rfl⟩ := OR.form hou
          have hXo : ∀ k, (Value.slice ua cl.length uc).ownBlock = some k → k ≠ X := by
            intro k hk e
            obtain ⟨hl1, h0 | ⟨g3, cap3, cur3, e3, _, hh3, _⟩⟩ := (pr.row_block hR5.own (i := rows'.length) (u := Value.slice ua cl.length uc) (by simp))
            · rw [h0.1] at hk; simp [Value.ownBlock] at hk
            · rw [e3] at hk
              simp [Value.ownBlock] at hk
              have := (Array.getElem?_eq_some_iff.1 hh3).1
              omega
          have hXl : X < W.heap.size := (Array.getElem?_eq_some_iff.1 hxW).1
          have hsx : SX w0 W m (.slice (some ⟨g, 0, none⟩) vn vc) g L X (.slice ua cl.length uc) (y0, y1, y2, y3) := ⟨hRW.r1, hcu, hfu, hxW⟩
          have HGo : Hid (∀ w' : World, Below W.heap.size W w' → RS w0 wB w' true m (acc ++ [cl]) (.slice (some ⟨g, 0, none⟩) vn vc) (rows' ++ [.slice ua cl.length uc]) ∧ SX w0 w' m (.slice (some ⟨g, 0, none⟩) vn vc) g L X (.slice ua cl.length uc) (y0, y1, y2, y3) ∧ OR 4 enI w' wB.heap.size 23 (.slice ua cl.length uc) cl ∧ wB.heap.size ≤ w'.heap.size ∧ X < w'.heap.size) := Lib.hid fun w' hb => by
            have h1 := hRW.below hb
            refine ⟨h1, ⟨h1.r1, kc hsx.c hb, ?_, kb hsx.x hb⟩, hou.below hb, h1.kp.1, Nat.lt_of_lt_of_le hXl hb.size⟩
            have h3 := hsx.f
            have h4 := hb.block g hgl
            simp only [World.frozen?, h4] at h3 ⊢
            exact h3
          have HK0 : Hid (∀ w' : World, SX w0 w' m (.slice (some ⟨g, 0, none⟩) vn vc) g L X (.slice ua cl.length uc) (y0, y1, y2, y3) → w'.cell? ⟨w0.heap.size + 1, 1, none⟩ = some (.slice (some ⟨g, 0, none⟩) vn vc) ∧ w'.cell? ⟨X, 0, none⟩ = some (.int .i64 y0) ∧ w'.cell? ⟨X, 1, none⟩ = some (.int .i64 y1) ∧ w'.cell? ⟨X, 2, none⟩ = some (.int .i64 y2) ∧ w'.cell? ⟨X, 3, none⟩ = some (.int .i64 y3)) := Lib.hid fun w' h => ⟨cel h.p 1, cel h.x 0, cel h.x 1, cel h.x 2, cel h.x 3⟩
          have HAp : Hid (∀ (wa w2 : World) (v2 : Value), Below W.heap.size W wa → Hid (OR 4 enI w2 wB.heap.size 23 v2 (cl ++ [(y0, y1, y2, y3)])) → wa.grownBy w2 (Value.slice ua cl.length uc).ownBlock → (v2.ownBlock = (Value.slice ua cl.length uc).ownBlock ∨ v2.ownBlock = some wa.heap.size) → SX w0 w2 m (.slice (some ⟨g, 0, none⟩) vn vc) g L X (.slice ua cl.length uc) (y0, y1, y2, y3) ∧ RS w0 wB (w2.setCell ⟨g, L, none⟩ v2) true m (acc ++ [cl ++ [(y0, y1, y2, y3)]]) (.slice (some ⟨g, 0, none⟩) vn vc) (rows' ++ [v2])) := Lib.hid fun wa w2 v2 hb ho hg hor => by
            obtain ⟨g1, g2, g3, g4, g5⟩ := HGo.out wa hb
            have hv2 : Value.slice (some ⟨g, 0, none⟩) vn vc = .slice (some ⟨g, 0, none⟩) (acc.length + 1) vc := by rw [hVN.out]
            have g2' := g2
            rw [← hLL.out] at g2' ⊢
            exact RS.last g1 hv2 g2' g5 hXo ho.out hg hor
          have HS0 := Lib.hid hsx
          have hgn1 : g ≠ w0.heap.size + 1 := by have := hR5.lo; omega
          have hgn2 : g ≠ X := by
            rintro rfl
            obtain ⟨_, ⟨h0, _⟩ | ⟨g4, cap4, cur4, e, _, hh4, _⟩⟩ := hRW.own.1
            · cases h0
            · simp only [Value.slice.injEq, Option.some.injEq, Addr.mk.injEq] at e
              obtain ⟨⟨rfl, _⟩, _⟩ := e
              rw [hxW] at hh4
              simp at hh4
          have HKS : Hid (∀ (w' : World) (v2 : Value), SX w0 w' m (.slice (some ⟨g, 0, none⟩) vn vc) g L X (.slice ua cl.length uc) (y0, y1, y2, y3) → (w'.setCell ⟨g, L, none⟩ v2).cell? ⟨w0.heap.size + 1, 1, none⟩ = some (.slice (some ⟨g, 0, none⟩) vn vc) ∧ (w'.setCell ⟨g, L, none⟩ v2).cell? ⟨X, 0, none⟩ = some (.int .i64 y0) ∧ (w'.setCell ⟨g, L, none⟩ v2).cell? ⟨X, 1, none⟩ = some (.int .i64 y1) ∧ (w'.setCell ⟨g, L, none⟩ v2).cell? ⟨X, 2, none⟩ = some (.int .i64 y2) ∧ (w'.setCell ⟨g, L, none⟩ v2).cell? ⟨X, 3, none⟩ = some (.int .i64 y3)) := Lib.hid fun w' v2 h => by
            have hp := (st.set_oth w' g L (w0.heap.size + 1) v2 (Ne.symm hgn1)).trans h.p
            have hx := (st.set_oth w' g L X v2 (Ne.symm hgn2)).trans h.x
            exact ⟨cel hp 1, cel hx 0, cel hx 1, cel hx 2, cel hx 3⟩
          clear hb5 hR5 CP HR hW hX hRW hou hxW hbW hXo hsx hgl hBg hcap hXl
          go_wp2_with fail
          rw [HW.out, HXX.out]
          try rw [hLi]
          clear hq1 hlt5 hlt6 HW HXX hgn1 hgn2
          have hSd := HK0.out _ (HGo.out W.drew (below_drewN (Below.refl _ _) 1)).2.1
          have hDA : Below W.heap.size W (W.drew.alloc (.cells #[.int .i64 y0, .int .i64 y1, .int .i64 y2, .int .i64 y3] 23)) := by go_grown
          have hcuA : (W.alloc (.cells #[.int .i64 y0, .int .i64 y1, .int .i64 y2, .int .i64 y3] 23)).cell? ⟨g, L, none⟩ = some (.slice ua cl.length uc) := (HGo.out _ (by go_grown)).2.1.c
          have hSA := HK0.out _ (HGo.out _ hDA).2.1
          refine wp_region_held_drew (S := fun w' : World => w'.cell? ⟨w0.heap.size + 1, 1, none⟩ = some (.slice (some ⟨g, 0, none⟩) vn vc) ∧ w'.cell? ⟨X, 0, none⟩ = some (.int .i64 y0) ∧ w'.cell? ⟨X, 1, none⟩ = some (.int .i64 y1) ∧ w'.cell? ⟨X, 2, none⟩ = some (.int .i64 y2) ∧ w'.cell? ⟨X, 3, none⟩ = some (.int .i64 y3)) (by kernel_rfl) hSd (fun hHeld => ?_)
          refine wpAnyH_take (i := 0) (v := ?_) rfl (by kernel_rfl) (by kernel_rfl) (by kernel_rfl) (fun _ _ _ h => h) (Or.inl ⟨by rfl, ?_⟩) (by with_reducible assumption) ?_
          rotate_left
          · (intro w' hSw; (try dsimp only at hSw); go_simp <;> (with_reducible rfl))
          try simp only [Act.put, List.setIfInBounds_toArray, List.set_cons_zero, List.set_cons_succ, List.getElem_toArray, List.getElem_cons_zero, List.getElem_cons_succ]
          refine wpAnyH_take (i := 1) (v := ?_) rfl (by kernel_rfl) (by kernel_rfl) (by kernel_rfl) (fun _ _ _ h => h) (Or.inl ⟨by rfl, ?_⟩) (by with_reducible assumption) ?_
          rotate_left
          · (intro w' hSw; (try dsimp only at hSw); go_simp <;> (with_reducible rfl))
          try simp only [Act.put, List.setIfInBounds_toArray, List.set_cons_zero, List.set_cons_succ, List.getElem_toArray, List.getElem_cons_zero, List.getElem_cons_succ]
          refine wpAnyH_take (i := 2) (v := ?_) rfl (by kernel_rfl) (by kernel_rfl) (by kernel_rfl) (fun _ _ _ h => h) (Or.inl ⟨by rfl, ?_⟩) (by with_reducible assumption) ?_
          rotate_left
          · (intro w' hSw; (try dsimp only at hSw); go_simp <;> (with_reducible rfl))
          try simp only [Act.put, List.setIfInBounds_toArray, List.set_cons_zero, List.set_cons_succ, List.getElem_toArray, List.getElem_cons_zero, List.getElem_cons_succ]
          refine wpAnyH_take (i := 3) (v := ?_) rfl (by kernel_rfl) (by kernel_rfl) (by kernel_rfl) (fun _ _ _ h => h) (Or.inl ⟨by rfl, ?_⟩) (by with_reducible assumption) ?_
          rotate_left
          · (intro w' hSw; (try dsimp only at hSw); go_simp <;> (with_reducible rfl))
          try simp only [Act.put, List.setIfInBounds_toArray, List.set_cons_zero, List.set_cons_succ, List.getElem_toArray, List.getElem_cons_zero, List.getElem_cons_succ]
          refine wpAnyH_take (i := 4) (v := ?_) rfl (by kernel_rfl) (by kernel_rfl) (by kernel_rfl) (fun _ _ _ h => h) (Or.inl ⟨by rfl, ?_⟩) (by with_reducible assumption) ?_
          rotate_left
          · (intro w' hSw; (try dsimp only at hSw); go_simp <;> (with_reducible rfl))
          try simp only [Act.put, List.setIfInBounds_toArray, List.set_cons_zero, List.set_cons_succ, List.getElem_toArray, List.getElem_cons_zero, List.getElem_cons_succ]
          refine wpAnyH_take (i := 5) (v := ?_) rfl (by kernel_rfl) (by kernel_rfl) (by kernel_rfl) (fun _ _ _ h => h) (Or.inl ⟨by rfl, ?_⟩) (by with_reducible assumption) ?_
          rotate_left
          · (intro w' hSw; (try dsimp only at hSw); go_simp <;> (with_reducible rfl))
          try simp only [Act.put, List.setIfInBounds_toArray, List.set_cons_zero, List.set_cons_succ, List.getElem_toArray, List.getElem_cons_zero, List.getElem_cons_succ]
          refine wpAnyH_take (i := 6) (v := ?_) rfl (by kernel_rfl) (by kernel_rfl) (by kernel_rfl) (fun _ _ _ h => h) (Or.inl ⟨by rfl, ?_⟩) (by with_reducible assumption) ?_
          rotate_left
          · (intro w' hSw; (try dsimp only at hSw); go_simp <;> (with_reducible rfl))
          try simp only [Act.put, List.setIfInBounds_toArray, List.set_cons_zero, List.set_cons_succ, List.getElem_toArray, List.getElem_cons_zero, List.getElem_cons_succ]
          refine wpAnyH_take (i := 7) (v := ?_) rfl (by kernel_rfl) (by kernel_rfl) (by kernel_rfl) (fun _ _ _ h => h) (Or.inl ⟨by rfl, ?_⟩) (by with_reducible assumption) ?_
          rotate_left
          · (intro w' hSw; (try dsimp only at hSw); go_simp <;> (with_reducible rfl))
          try simp only [Act.put, List.setIfInBounds_toArray, List.set_cons_zero, List.set_cons_succ, List.getElem_toArray, List.getElem_cons_zero, List.getElem_cons_succ]
          refine wpAnyH_take (i := 8) (v := ?_) rfl (by kernel_rfl) (by kernel_rfl) (by kernel_rfl) (fun _ _ _ h => h) (Or.inl ⟨by rfl, ?_⟩) (by with_reducible assumption) ?_
          rotate_left
          · (intro w' hSw; (try dsimp only at hSw); go_simp <;> (with_reducible rfl))
          try simp only [Act.put, List.setIfInBounds_toArray, List.set_cons_zero, List.set_cons_succ, List.getElem_toArray, List.getElem_cons_zero, List.getElem_cons_succ]
          refine wpAnyH_take (i := 9) (v := ?_) rfl (by kernel_rfl) (by kernel_rfl) (by kernel_rfl) (fun _ _ _ h => h) (Or.inl ⟨by rfl, ?_⟩) (by with_reducible assumption) ?_
          rotate_left
          · (intro w' hSw; (try dsimp only at hSw); go_simp <;> (with_reducible rfl))
          try simp only [Act.put, List.setIfInBounds_toArray, List.set_cons_zero, List.set_cons_succ, List.getElem_toArray, List.getElem_cons_zero, List.getElem_cons_succ]
          refine wpAnyH_take (i := 10) (v := ?_) rfl (by kernel_rfl) (by kernel_rfl) (by kernel_rfl) (fun _ _ _ h => h) (Or.inl ⟨by rfl, ?_⟩) (by with_reducible assumption) ?_
          rotate_left
          · (intro w' hSw; (try dsimp only at hSw); go_simp <;> (with_reducible rfl))
          try simp only [Act.put, List.setIfInBounds_toArray, List.set_cons_zero, List.set_cons_succ, List.getElem_toArray, List.getElem_cons_zero, List.getElem_cons_succ]
          refine wpAnyH_take (i := 12) (v := ?_) rfl (by kernel_rfl) (by kernel_rfl) (by kernel_rfl) (fun _ _ _ h => h) (Or.inl ⟨by rfl, ?_⟩) (by with_reducible assumption) ?_
          rotate_left
          · (intro w' hSw; (try dsimp only at hSw); go_simp <;> (with_reducible rfl))
          try simp only [Act.put, List.setIfInBounds_toArray, List.set_cons_zero, List.set_cons_succ, List.getElem_toArray, List.getElem_cons_zero, List.getElem_cons_succ]
          refine wpAnyH_ready (rs := [11, 13]) (by kernel_rfl) (by simp) ?_
          refine AllReadyH.cons rfl (fun K hK => ?_) ?_
          · go_simp
            refine hK.out _ _ hSd (fun _ => ?_)
            clear hK K
            try simp only [Act.put, List.setIfInBounds_toArray, List.set_cons_zero, List.set_cons_succ, List.getElem_toArray, List.getElem_cons_zero, List.getElem_cons_succ]
            refine wpAnyH_ready (rs := [13]) (by kernel_rfl) (by simp) ?_
            refine AllReadyH.cons rfl (fun K hK => ?_) AllReadyH.nil
            go_simp
            refine hK.out _ _ hSA (fun _ => ?_)
            clear hK K
            try simp only [Act.put, List.setIfInBounds_toArray, List.set_cons_zero, List.set_cons_succ, List.getElem_toArray, List.getElem_cons_zero, List.getElem_cons_succ]
            refine wpAnyH_ready (rs := [14]) (by kernel_rfl) (by simp) ?_
            refine AllReadyH.cons rfl (fun K hK => ?_) AllReadyH.nil
            refine step_appR rfl _ _ 44 23 _ 32 (by rfl) Tryd.underlying44 infoI rfl (by decide) recI wB.heap.size (.slice ua cl.length uc) cl (y0, y1, y2, y3) ?hs W.drew.heap.size 1 ?hx ?hown ?hu ?hsm ?hB ?_
            case hs => rfl
            case hx => rfl
            case hown => exact Lib.hid (HGo.out _ hDA).2.2.1
            case hu => exact rec_new (by go_simp) rfl
            case hsm => omega
            case hB => exact (HGo.out _ hDA).2.2.2.1
            intro v2 w2 ho2 hg2 hor2
            have hA2 := HAp.out _ w2 v2 hDA ho2 hg2 hor2
            have hcu2 := hA2.1.c
            have hfu2 := hA2.1.f
            have hS2 := HK0.out _ hA2.1
            have hS3 := HKS.out _ v2 hA2.1
            obtain ⟨va2, vc2, rfl⟩ := ho2.out.form
            have hln : (cl ++ [((y0, y1, y2, y3) : I4)]).length = cl.length + 1 := by simp
            rw [hln] at hA2 hS3 ⊢
            have HA2 := Lib.hid hA2.2
            refine hK.out _ _ hS2 (fun _ => ?_)
            clear hK K hA2 ho2 hg2 hor2 hcu hcuA
            try simp only [Act.put, List.setIfInBounds_toArray, List.set_cons_zero, List.set_cons_succ, List.getElem_toArray, List.getElem_cons_zero, List.getElem_cons_succ]
            refine wpAnyH_take (i := 15) (v := ?_) rfl (by kernel_rfl) (by kernel_rfl) (by kernel_rfl) (fun _ _ _ h => h) (Or.inl ⟨by rfl, ?_⟩) (by with_reducible assumption) ?_
            rotate_left
            · (intro w' hSw; (try dsimp only at hSw); go_simp <;> (with_reducible rfl))
            try simp only [Act.put, List.setIfInBounds_toArray, List.set_cons_zero, List.set_cons_succ, List.getElem_toArray, List.getElem_cons_zero, List.getElem_cons_succ]
            refine wpAnyH_ready (rs := [16]) (by kernel_rfl) (by simp) ?_
            refine AllReadyH.cons rfl (fun K hK => ?_) AllReadyH.nil
            go_simp
            refine hK.out _ _ hS3 (fun _ => ?_)
            clear hK K hcu2 hfu2 hS2 hS3 hHeld hSd hSA
            try simp only [Act.put, List.setIfInBounds_toArray, List.set_cons_zero, List.set_cons_succ, List.getElem_toArray, List.getElem_cons_zero, List.getElem_cons_succ]
            refine wpAnyH_done (by kernel_rfl) ?_ _
            clear HAp HGo HK0 HS0 HKS hDA
            go_wp2_with fail
            go_ret
            exact ⟨_, _, rfl, HA2.out⟩
          refine AllReadyH.cons rfl (fun K hK => ?_) AllReadyH.nil
          go_simp
          refine hK.out _ _ hSA (fun _ => ?_)
          clear hK K
          try simp only [Act.put, List.setIfInBounds_toArray, List.set_cons_zero, List.set_cons_succ, List.getElem_toArray, List.getElem_cons_zero, List.getElem_cons_succ]
          refine wpAnyH_ready (rs := [11]) (by kernel_rfl) (by simp) ?_
          refine AllReadyH.cons rfl (fun K hK => ?_) AllReadyH.nil
          go_simp
          refine hK.out _ _ hSA (fun _ => ?_)
          clear hK K
          try simp only [Act.put, List.setIfInBounds_toArray, List.set_cons_zero, List.set_cons_succ, List.getElem_toArray, List.getElem_cons_zero, List.getElem_cons_succ]
          refine wpAnyH_ready (rs := [14]) (by kernel_rfl) (by simp) ?_
          refine AllReadyH.cons rfl (fun K hK => ?_) AllReadyH.nil
          refine step_appR rfl _ _ 44 23 _ 32 (by rfl) Tryd.underlying44 infoI rfl (by decide) recI wB.heap.size (.slice ua cl.length uc) cl (y0, y1, y2, y3) ?hs W.drew.heap.size 1 ?hx ?hown ?hu ?hsm ?hB ?_
          case hs => rfl
          case hx => rfl
          case hown => exact Lib.hid (HGo.out _ hDA).2.2.1
          case hu => exact rec_new (by go_simp) rfl
          case hsm => omega
          case hB => exact (HGo.out _ hDA).2.2.2.1
          intro v2 w2 ho2 hg2 hor2
          have hA2 := HAp.out _ w2 v2 hDA ho2 hg2 hor2
          have hcu2 := hA2.1.c
          have hfu2 := hA2.1.f
          have hS2 := HK0.out _ hA2.1
          have hS3 := HKS.out _ v2 hA2.1
          obtain ⟨va2, vc2, rfl⟩ := ho2.out.form
          have hln : (cl ++ [((y0, y1, y2, y3) : I4)]).length = cl.length + 1 := by simp
          rw [hln] at hA2 hS3 ⊢
          have HA2 := Lib.hid hA2.2
          refine hK.out _ _ hS2 (fun _ => ?_)
          clear hK K hA2 ho2 hg2 hor2 hcu hcuA
          try simp only [Act.put, List.setIfInBounds_toArray, List.set_cons_zero, List.set_cons_succ, List.getElem_toArray, List.getElem_cons_zero, List.getElem_cons_succ]
          refine wpAnyH_take (i := 15) (v := ?_) rfl (by kernel_rfl) (by kernel_rfl) (by kernel_rfl) (fun _ _ _ h => h) (Or.inl ⟨by rfl, ?_⟩) (by with_reducible assumption) ?_
          rotate_left
          · (intro w' hSw; (try dsimp only at hSw); go_simp <;> (with_reducible rfl))
          try simp only [Act.put, List.setIfInBounds_toArray, List.set_cons_zero, List.set_cons_succ, List.getElem_toArray, List.getElem_cons_zero, List.getElem_cons_succ]
          refine wpAnyH_ready (rs := [16]) (by kernel_rfl) (by simp) ?_
          refine AllReadyH.cons rfl (fun K hK => ?_) AllReadyH.nil
          go_simp
          refine hK.out _ _ hS3 (fun _ => ?_)
          clear hK K hcu2 hfu2 hS2 hS3 hHeld hSd hSA
          try simp only [Act.put, List.setIfInBounds_toArray, List.set_cons_zero, List.set_cons_succ, List.getElem_toArray, List.getElem_cons_zero, List.getElem_cons_succ]
          refine wpAnyH_done (by kernel_rfl) ?_ _
          clear HAp HGo HK0 HS0 HKS hDA
          go_wp2_with fail
          go_ret
          exact ⟨_, _, rfl, HA2.out⟩
      · rw [if_pos he]
        have hcb : ((e0 : Int) != 0) = true := by rw [bne, beq_eq_false_iff_ne.2 he]; rfl
        clear hR
        go_enter Tryd.func37, Tryd.ntmps37
        go_wp2_with fail
        refine CP.out.mono ?_
        rintro e w5 ⟨rfl, hb5⟩
        have hR5 := HR.out.below hb5
        have HR6 := Lib.hid (hR5.below (w' := w5.alloc (.cells #[.int .i64 y0, .int .i64 y1, .int .i64 y2, .int .i64 y3] 23)) (by go_grown))
        clear hb5 hR5 CP HR
        go_wp2_with fail
        go_ret
        exact ⟨_, _, rfl, HR6.out⟩
    · have hn1i : ¬ (n : Int) = 1 := by omega
      have hn1b : ((n : Int) == 1) = false := by rw [beq_eq_false_iff_ne]; omega
      clear hN hM hl hS hn hf
      by_cases he : e0 = 0
      · subst he
        rw [if_neg (by simp)]
        by_cases hfn : fs = []
        · rw [if_pos hfn]
          have hvn0 : vn = 0 := by rw [HVN.out, hfn]; rfl
          subst hvn0
          clear hR
          go_enter Tryd.func37, Tryd.ntmps37
          go_wp2_with fail
          refine CP.out.mono ?_
          rintro e w5 ⟨rfl, hb5⟩
          have hR5 := HR.out.below hb5
          have HR6 := Lib.hid (hR5.below (w' := w5.alloc (.cells #[.int .i64 y0, .int .i64 y1, .int .i64 y2, .int .i64 y3] 23)) (by go_grown))
          have hq1 : w5.cell? ⟨w0.heap.size + 1, 1, none⟩ = some (.slice va 0 vc) := cel hR5.r1 1
          have hlt5 := hR5.lt
          have hlt6 : w0.heap.size + 1 < w5.heap.size := by omega
          clear hb5 hR5 CP HR
          go_wp2_with fail
          go_ret
          exact ⟨_, _, rfl, HR6.out⟩
        · rw [if_neg hfn]
          obtain ⟨acc, cl, rfl⟩ : ∃ acc cl, fs = acc ++ [cl] := by
            rcases List.eq_nil_or_concat fs with h | ⟨acc, cl, h⟩
            · exact absurd h hfn
            · exact ⟨acc, cl, by simpa using h⟩
          rw [addI_snoc]
          obtain ⟨rows', u, rfl⟩ := rows_snoc hR.own
          have hcl : cl.length ≤ 1000000 := by simpa using hf2
          have hvn1 : vn = acc.length + 1 := by rw [HVN.out]; simp
          obtain ⟨L, hL⟩ : ∃ L, acc.length = L := ⟨_, rfl⟩
          have hLi : (vn : Int) - 1 = (L : Int) := by omega
          have hLn : ¬ (vn : Int) - 1 < 0 := by omega
          have hLn2 : (L : Int) < (vn : Int) := by omega
          have hLL := Lib.hid hL
          have hVN := Lib.hid hvn1
          have hvn2 : (vn : Int) ≤ 100001 := by simp at hf1; omega
          clear hR HVN hvn1 hf1 hf2 hfn hL
          go_enter Tryd.func37, Tryd.ntmps37
          go_wp2_with fail
          refine CP.out.mono ?_
          rintro e w5 ⟨rfl, hb5⟩
          have hR5 := HR.out.below hb5
          have hq1 : w5.cell? ⟨w0.heap.size + 1, 1, none⟩ = some (.slice va vn vc) := cel hR5.r1 1
          have hlt5 := hR5.lt
          have hlt6 : w0.heap.size + 1 < w5.heap.size := by omega
          obtain ⟨W, hW⟩ : ∃ W, w5.alloc (.cells #[.int .i64 y0, .int .i64 y1, .int .i64 y2, .int .i64 y3] 23) = W := ⟨_, rfl⟩
          have hbW : Below w5.heap.size w5 W := by rw [← hW]; exact (Below.refl _ _).alloc (Nat.le_refl _) _
          have hxW : W.heap[w5.heap.size]? = some (.cells #[.int .i64 y0, .int .i64 y1, .int .i64 y2, .int .i64 y3] 23 (0, 0)) := by rw [← hW]; exact heap_new w5 _ _
          have hRW := hR5.below hbW
          obtain ⟨X, hX⟩ : ∃ X, w5.heap.size = X := ⟨_, rfl⟩
          rw [hX] at hxW
          have HW := Lib.hid hW
          have HXX := Lib.hid hX
          obtain ⟨g, cap, hv, hcap, hBg, hgl, hcu, hfu, hou⟩ := OP.lastAt hRW.own
          rw [hLL.out, ← show vn = L + 1 by have := hVN.out; rw [hLL.out] at this; exact this] at hv
          rw [Value.slice.injEq] at hv
          obtain ⟨rfl, _, rfl⟩ := hv
          rw [hLL.out] at hcu hfu
          obtain ⟨ua, uc, rfl⟩ := OR.form hou
          have hXo : ∀ k, (Value.slice ua cl.length uc).ownBlock = some k → k ≠ X := by
            intro k hk e
            obtain ⟨hl1, h0 | ⟨g3, cap3, cur3, e3, _, hh3, _⟩⟩ := (pr.row_block hR5.own (i := rows'.length) (u := Value.slice ua cl.length uc) (by simp))
            · rw [h0.1] at hk; simp [Value.ownBlock] at hk
            · rw [e3] at hk
              simp [Value.ownBlock] at hk
              have := (Array.getElem?_eq_some_iff.1 hh3).1
              omega
          have hXl : X < W.heap.size := (Array.getElem?_eq_some_iff.1 hxW).1
          have hsx : SX w0 W m (.slice (some ⟨g, 0, none⟩) vn vc) g L X (.slice ua cl.length uc) (y0, y1, y2, y3) := ⟨hRW.r1, hcu, hfu, hxW⟩
          have HGo : Hid (∀ w' : World, Below W.heap.size W w' → RS w0 wB w' true m (acc ++ [cl]) (.slice (some ⟨g, 0, none⟩) vn vc) (rows' ++ [.slice ua cl.length uc]) ∧ SX w0 w' m (.slice (some ⟨g, 0, none⟩) vn vc) g L X (.slice ua cl.length uc) (y0, y1, y2, y3) ∧ OR 4 enI w' wB.heap.size 23 (.slice ua cl.length uc) cl ∧ wB.heap.size ≤ w'.heap.size ∧ X < w'.heap.size) := Lib.hid fun w' hb => by
            have h1 := hRW.below hb
            refine ⟨h1, ⟨h1.r1, kc hsx.c hb, ?_, kb hsx.x hb⟩, hou.below hb, h1.kp.1, Nat.lt_of_lt_of_le hXl hb.size⟩
            have h3 := hsx.f
            have h4 := hb.block g hgl
            simp only [World.frozen?, h4] at h3 ⊢
            exact h3
          have HK0 : Hid (∀ w' : World, SX w0 w' m (.slice (some ⟨g, 0, none⟩) vn vc) g L X (.slice ua cl.length uc) (y0, y1, y2, y3) → w'.cell? ⟨w0.heap.size + 1, 1, none⟩ = some (.slice (some ⟨g, 0, none⟩) vn vc) ∧ w'.cell? ⟨X, 0, none⟩ = some (.int .i64 y0) ∧ w'.cell? ⟨X, 1, none⟩ = some (.int .i64 y1) ∧ w'.cell? ⟨X, 2, none⟩ = some (.int .i64 y2) ∧ w'.cell? ⟨X, 3, none⟩ = some (.int .i64 y3)) := Lib.hid fun w' h => ⟨cel h.p 1, cel h.x 0, cel h.x 1, cel h.x 2, cel h.x 3⟩
          have HAp : Hid (∀ (wa w2 : World) (v2 : Value), Below W.heap.size W wa → Hid (OR 4 enI w2 wB.heap.size 23 v2 (cl ++ [(y0, y1, y2, y3)])) → wa.grownBy w2 (Value.slice ua cl.length uc).ownBlock → (v2.ownBlock = (Value.slice ua cl.length uc).ownBlock ∨ v2.ownBlock = some wa.heap.size) → SX w0 w2 m (.slice (some ⟨g, 0, none⟩) vn vc) g L X (.slice ua cl.length uc) (y0, y1, y2, y3) ∧ RS w0 wB (w2.setCell ⟨g, L, none⟩ v2) true m (acc ++ [cl ++ [(y0, y1, y2, y3)]]) (.slice (some ⟨g, 0, none⟩) vn vc) (rows' ++ [v2])) := Lib.hid fun wa w2 v2 hb ho hg hor => by
            obtain ⟨g1, g2, g3, g4, g5⟩ := HGo.out wa hb
            have hv2 : Value.slice (some ⟨g, 0, none⟩) vn vc = .slice (some ⟨g, 0, none⟩) (acc.length + 1) vc := by rw [hVN.out]
            have g2' := g2
            rw [← hLL.out] at g2' ⊢
            exact RS.last g1 hv2 g2' g5 hXo ho.out hg hor
          have HS0 := Lib.hid hsx
          have hgn1 : g ≠ w0.heap.size + 1 := by have := hR5.lo; omega
          have hgn2 : g ≠ X := by
            rintro rfl
            obtain ⟨_, ⟨h0, _⟩ | ⟨g4, cap4, cur4, e, _, hh4, _⟩⟩ := hRW.own.1
            · cases h0
            · simp only [Value.slice.injEq, Option.some.injEq, Addr.mk.injEq] at e
              obtain ⟨⟨rfl, _⟩, _⟩ := e
              rw [hxW] at hh4
              simp at hh4
          have HKS : Hid (∀ (w' : World) (v2 : Value), SX w0 w' m (.slice (some ⟨g, 0, none⟩) vn vc) g L X (.slice ua cl.length uc) (y0, y1, y2, y3) → (w'.setCell ⟨g, L, none⟩ v2).cell? ⟨w0.heap.size + 1, 1, none⟩ = some (.slice (some ⟨g, 0, none⟩) vn vc) ∧ (w'.setCell ⟨g, L, none⟩ v2).cell? ⟨X, 0, none⟩ = some (.int .i64 y0) ∧ (w'.setCell ⟨g, L, none⟩ v2).cell? ⟨X, 1, none⟩ = some (.int .i64 y1) ∧ (w'.setCell ⟨g, L, none⟩ v2).cell? ⟨X, 2, none⟩ = some (.int .i64 y2) ∧ (w'.setCell ⟨g, L, none⟩ v2).cell? ⟨X, 3, none⟩ = some (.int .i64 y3)) := Lib.hid fun w' v2 h => by
            have hp := (st.set_oth w' g L (w0.heap.size + 1) v2 (Ne.symm hgn1)).trans h.p
            have hx := (st.set_oth w' g L X v2 (Ne.symm hgn2)).trans h.x
            exact ⟨cel hp 1, cel hx 0, cel hx 1, cel hx 2, cel hx 3⟩
          clear hb5 hR5 CP HR hW hX hRW hou hxW hbW hXo hsx hgl hBg hcap hXl
          go_wp2_with fail
          rw [HW.out, HXX.out]
          try rw [hLi]
          clear hq1 hlt5 hlt6 HW HXX hgn1 hgn2
          have hSd := HK0.out _ (HGo.out W.drew (below_drewN (Below.refl _ _) 1)).2.1
          have hDA : Below W.heap.size W (W.drew.alloc (.cells #[.int .i64 y0, .int .i64 y1, .int .i64 y2, .int .i64 y3] 23)) := by go_grown
          have hcuA : (W.alloc (.cells #[.int .i64 y0, .int .i64 y1, .int .i64 y2, .int .i64 y3] 23)).cell? ⟨g, L, none⟩ = some (.slice ua cl.length uc) := (HGo.out _ (by go_grown)).2.1.c
          have hSA := HK0.out _ (HGo.out _ hDA).2.1
          refine wp_region_held_drew (S := fun w' : World => w'.cell? ⟨w0.heap.size + 1, 1, none⟩ = some (.slice (some ⟨g, 0, none⟩) vn vc) ∧ w'.cell? ⟨X, 0, none⟩ = some (.int .i64 y0) ∧ w'.cell? ⟨X, 1, none⟩ = some (.int .i64 y1) ∧ w'.cell? ⟨X, 2, none⟩ = some (.int .i64 y2) ∧ w'.cell? ⟨X, 3, none⟩ = some (.int .i64 y3)) (by kernel_rfl) hSd (fun hHeld => ?_)
          refine wpAnyH_take (i := 0) (v := ?_) rfl (by kernel_rfl) (by kernel_rfl) (by kernel_rfl) (fun _ _ _ h => h) (Or.inl ⟨by rfl, ?_⟩) (by with_reducible assumption) ?_
          rotate_left
          · (intro w' hSw; (try dsimp only at hSw); go_simp <;> (with_reducible rfl))
          try simp only [Act.put, List.setIfInBounds_toArray, List.set_cons_zero, List.set_cons_succ, List.getElem_toArray, List.getElem_cons_zero, List.getElem_cons_succ]
          refine wpAnyH_take (i := 1) (v := ?_) rfl (by kernel_rfl) (by kernel_rfl) (by kernel_rfl) (fun _ _ _ h => h) (Or.inl ⟨by rfl, ?_⟩) (by with_reducible assumption) ?_
          rotate_left
          · (intro w' hSw; (try dsimp only at hSw); go_simp <;> (with_reducible rfl))
          try simp only [Act.put, List.setIfInBounds_toArray, List.set_cons_zero, List.set_cons_succ, List.getElem_toArray, List.getElem_cons_zero, List.getElem_cons_succ]
          refine wpAnyH_take (i := 2) (v := ?_) rfl (by kernel_rfl) (by kernel_rfl) (by kernel_rfl) (fun _ _ _ h => h) (Or.inl ⟨by rfl, ?_⟩) (by with_reducible assumption) ?_
          rotate_left
          · (intro w' hSw; (try dsimp only at hSw); go_simp <;> (with_reducible rfl))
          try simp only [Act.put, List.setIfInBounds_toArray, List.set_cons_zero, List.set_cons_succ, List.getElem_toArray, List.getElem_cons_zero, List.getElem_cons_succ]
          refine wpAnyH_take (i := 3) (v := ?_) rfl (by kernel_rfl) (by kernel_rfl) (by kernel_rfl) (fun _ _ _ h => h) (Or.inl ⟨by rfl, ?_⟩) (by with_reducible assumption) ?_
          rotate_left
          · (intro w' hSw; (try dsimp only at hSw); go_simp <;> (with_reducible rfl))
          try simp only [Act.put, List.setIfInBounds_toArray, List.set_cons_zero, List.set_cons_succ, List.getElem_toArray, List.getElem_cons_zero, List.getElem_cons_succ]
          refine wpAnyH_take (i := 4) (v := ?_) rfl (by kernel_rfl) (by kernel_rfl) (by kernel_rfl) (fun _ _ _ h => h) (Or.inl ⟨by rfl, ?_⟩) (by with_reducible assumption) ?_
          rotate_left
          · (intro w' hSw; (try dsimp only at hSw); go_simp <;> (with_reducible rfl))
          try simp only [Act.put, List.setIfInBounds_toArray, List.set_cons_zero, List.set_cons_succ, List.getElem_toArray, List.getElem_cons_zero, List.getElem_cons_succ]
          refine wpAnyH_take (i := 5) (v := ?_) rfl (by kernel_rfl) (by kernel_rfl) (by kernel_rfl) (fun _ _ _ h => h) (Or.inl ⟨by rfl, ?_⟩) (by with_reducible assumption) ?_
          rotate_left
          · (intro w' hSw; (try dsimp only at hSw); go_simp <;> (with_reducible rfl))
          try simp only [Act.put, List.setIfInBounds_toArray, List.set_cons_zero, List.set_cons_succ, List.getElem_toArray, List.getElem_cons_zero, List.getElem_cons_succ]
          refine wpAnyH_take (i := 6) (v := ?_) rfl (by kernel_rfl) (by kernel_rfl) (by kernel_rfl) (fun _ _ _ h => h) (Or.inl ⟨by rfl, ?_⟩) (by with_reducible assumption) ?_
          rotate_left
          · (intro w' hSw; (try dsimp only at hSw); go_simp <;> (with_reducible rfl))
          try simp only [Act.put, List.setIfInBounds_toArray, List.set_cons_zero, List.set_cons_succ, List.getElem_toArray, List.getElem_cons_zero, List.getElem_cons_succ]
          refine wpAnyH_take (i := 7) (v := ?_) rfl (by kernel_rfl) (by kernel_rfl) (by kernel_rfl) (fun _ _ _ h => h) (Or.inl ⟨by rfl, ?_⟩) (by with_reducible assumption) ?_
          rotate_left
          · (intro w' hSw; (try dsimp only at hSw); go_simp <;> (with_reducible rfl))
          try simp only [Act.put, List.setIfInBounds_toArray, List.set_cons_zero, List.set_cons_succ, List.getElem_toArray, List.getElem_cons_zero, List.getElem_cons_succ]
          refine wpAnyH_take (i := 8) (v := ?_) rfl (by kernel_rfl) (by kernel_rfl) (by kernel_rfl) (fun _ _ _ h => h) (Or.inl ⟨by rfl, ?_⟩) (by with_reducible assumption) ?_
          rotate_left
          · (intro w' hSw; (try dsimp only at hSw); go_simp <;> (with_reducible rfl))
          try simp only [Act.put, List.setIfInBounds_toArray, List.set_cons_zero, List.set_cons_succ, List.getElem_toArray, List.getElem_cons_zero, List.getElem_cons_succ]
          refine wpAnyH_take (i := 9) (v := ?_) rfl (by kernel_rfl) (by kernel_rfl) (by kernel_rfl) (fun _ _ _ h => h) (Or.inl ⟨by rfl, ?_⟩) (by with_reducible assumption) ?_
          rotate_left
          · (intro w' hSw; (try dsimp only at hSw); go_simp <;> (with_reducible rfl))
          try simp only [Act.put, List.setIfInBounds_toArray, List.set_cons_zero, List.set_cons_succ, List.getElem_toArray, List.getElem_cons_zero, List.getElem_cons_succ]
          refine wpAnyH_take (i := 10) (v := ?_) rfl (by kernel_rfl) (by kernel_rfl) (by kernel_rfl) (fun _ _ _ h => h) (Or.inl ⟨by rfl, ?_⟩) (by with_reducible assumption) ?_
          rotate_left
          · (intro w' hSw; (try dsimp only at hSw); go_simp <;> (with_reducible rfl))
          try simp only [Act.put, List.setIfInBounds_toArray, List.set_cons_zero, List.set_cons_succ, List.getElem_toArray, List.getElem_cons_zero, List.getElem_cons_succ]
          refine wpAnyH_take (i := 12) (v := ?_) rfl (by kernel_rfl) (by kernel_rfl) (by kernel_rfl) (fun _ _ _ h => h) (Or.inl ⟨by rfl, ?_⟩) (by with_reducible assumption) ?_
          rotate_left
          · (intro w' hSw; (try dsimp only at hSw); go_simp <;> (with_reducible rfl))
          try simp only [Act.put, List.setIfInBounds_toArray, List.set_cons_zero, List.set_cons_succ, List.getElem_toArray, List.getElem_cons_zero, List.getElem_cons_succ]
          refine wpAnyH_ready (rs := [11, 13]) (by kernel_rfl) (by simp) ?_
          refine AllReadyH.cons rfl (fun K hK => ?_) ?_
          · go_simp
            refine hK.out _ _ hSd (fun _ => ?_)
            clear hK K
            try simp only [Act.put, List.setIfInBounds_toArray, List.set_cons_zero, List.set_cons_succ, List.getElem_toArray, List.getElem_cons_zero, List.getElem_cons_succ]
            refine wpAnyH_ready (rs := [13]) (by kernel_rfl) (by simp) ?_
            refine AllReadyH.cons rfl (fun K hK => ?_) AllReadyH.nil
            go_simp
            refine hK.out _ _ hSA (fun _ => ?_)
            clear hK K
            try simp only [Act.put, List.setIfInBounds_toArray, List.set_cons_zero, List.set_cons_succ, List.getElem_toArray, List.getElem_cons_zero, List.getElem_cons_succ]
            refine wpAnyH_ready (rs := [14]) (by kernel_rfl) (by simp) ?_
            refine AllReadyH.cons rfl (fun K hK => ?_) AllReadyH.nil
            refine step_appR rfl _ _ 44 23 _ 32 (by rfl) Tryd.underlying44 infoI rfl (by decide) recI wB.heap.size (.slice ua cl.length uc) cl (y0, y1, y2, y3) ?hs W.drew.heap.size 1 ?hx ?hown ?hu ?hsm ?hB ?_
            case hs => rfl
            case hx => rfl
            case hown => exact Lib.hid (HGo.out _ hDA).2.2.1
            case hu => exact rec_new (by go_simp) rfl
            case hsm => omega
            case hB => exact (HGo.out _ hDA).2.2.2.1
            intro v2 w2 ho2 hg2 hor2
            have hA2 := HAp.out _ w2 v2 hDA ho2 hg2 hor2
            have hcu2 := hA2.1.c
            have hfu2 := hA2.1.f
            have hS2 := HK0.out _ hA2.1
            have hS3 := HKS.out _ v2 hA2.1
            obtain ⟨va2, vc2, rfl⟩ := ho2.out.form
            have hln : (cl ++ [((y0, y1, y2, y3) : I4)]).length = cl.length + 1 := by simp
            rw [hln] at hA2 hS3 ⊢
            have HA2 := Lib.hid hA2.2
            refine hK.out _ _ hS2 (fun _ => ?_)
            clear hK K hA2 ho2 hg2 hor2 hcu hcuA
            try simp only [Act.put, List.setIfInBounds_toArray, List.set_cons_zero, List.set_cons_succ, List.getElem_toArray, List.getElem_cons_zero, List.getElem_cons_succ]
            refine wpAnyH_take (i := 15) (v := ?_) rfl (by kernel_rfl) (by kernel_rfl) (by kernel_rfl) (fun _ _ _ h => h) (Or.inl ⟨by rfl, ?_⟩) (by with_reducible assumption) ?_
            rotate_left
            · (intro w' hSw; (try dsimp only at hSw); go_simp <;> (with_reducible rfl))
            try simp only [Act.put, List.setIfInBounds_toArray, List.set_cons_zero, List.set_cons_succ, List.getElem_toArray, List.getElem_cons_zero, List.getElem_cons_succ]
            refine wpAnyH_ready (rs := [16]) (by kernel_rfl) (by simp) ?_
            refine AllReadyH.cons rfl (fun K hK => ?_) AllReadyH.nil
            go_simp
            refine hK.out _ _ hS3 (fun _ => ?_)
            clear hK K hcu2 hfu2 hS2 hS3 hHeld hSd hSA
            try simp only [Act.put, List.setIfInBounds_toArray, List.set_cons_zero, List.set_cons_succ, List.getElem_toArray, List.getElem_cons_zero, List.getElem_cons_succ]
            refine wpAnyH_done (by kernel_rfl) ?_ _
            clear HAp HGo HK0 HS0 HKS hDA
            go_wp2_with fail
            go_ret
            exact ⟨_, _, rfl, HA2.out⟩
          refine AllReadyH.cons rfl (fun K hK => ?_) AllReadyH.nil
          go_simp
          refine hK.out _ _ hSA (fun _ => ?_)
          clear hK K
          try simp only [Act.put, List.setIfInBounds_toArray, List.set_cons_zero, List.set_cons_succ, List.getElem_toArray, List.getElem_cons_zero, List.getElem_cons_succ]
          refine wpAnyH_ready (rs := [11]) (by kernel_rfl) (by simp) ?_
          refine AllReadyH.cons rfl (fun K hK => ?_) AllReadyH.nil
          go_simp
          refine hK.out _ _ hSA (fun _ => ?_)
          clear hK K
          try simp only [Act.put, List.setIfInBounds_toArray, List.set_cons_zero, List.set_cons_succ, List.getElem_toArray, List.getElem_cons_zero, List.getElem_cons_succ]
          refine wpAnyH_ready (rs := [14]) (by kernel_rfl) (by simp) ?_
          refine AllReadyH.cons rfl (fun K hK => ?_) AllReadyH.nil
          refine step_appR rfl _ _ 44 23 _ 32 (by rfl) Tryd.underlying44 infoI rfl (by decide) recI wB.heap.size (.slice ua cl.length uc) cl (y0, y1, y2, y3) ?hs W.drew.heap.size 1 ?hx ?hown ?hu ?hsm ?hB ?_
          case hs => rfl
          case hx => rfl
          case hown => exact Lib.hid (HGo.out _ hDA).2.2.1
          case hu => exact rec_new (by go_simp) rfl
          case hsm => omega
          case hB => exact (HGo.out _ hDA).2.2.2.1
          intro v2 w2 ho2 hg2 hor2
          have hA2 := HAp.out _ w2 v2 hDA ho2 hg2 hor2
          have hcu2 := hA2.1.c
          have hfu2 := hA2.1.f
          have hS2 := HK0.out _ hA2.1
          have hS3 := HKS.out _ v2 hA2.1
          obtain ⟨va2, vc2, rfl⟩ := ho2.out.form
          have hln : (cl ++ [((y0, y1, y2, y3) : I4)]).length = cl.length + 1 := by simp
          rw [hln] at hA2 hS3 ⊢
          have HA2 := Lib.hid hA2.2
          refine hK.out _ _ hS2 (fun _ => ?_)
          clear hK K hA2 ho2 hg2 hor2 hcu hcuA
          try simp only [Act.put, List.setIfInBounds_toArray, List.set_cons_zero, List.set_cons_succ, List.getElem_toArray, List.getElem_cons_zero, List.getElem_cons_succ]
          refine wpAnyH_take (i := 15) (v := ?_) rfl (by kernel_rfl) (by kernel_rfl) (by kernel_rfl) (fun _ _ _ h => h) (Or.inl ⟨by rfl, ?_⟩) (by with_reducible assumption) ?_
          rotate_left
          · (intro w' hSw; (try dsimp only at hSw); go_simp <;> (with_reducible rfl))
          try simp only [Act.put, List.setIfInBounds_toArray, List.set_cons_zero, List.set_cons_succ, List.getElem_toArray, List.getElem_cons_zero, List.getElem_cons_succ]
          refine wpAnyH_ready (rs := [16]) (by kernel_rfl) (by simp) ?_
          refine AllReadyH.cons rfl (fun K hK => ?_) AllReadyH.nil
          go_simp
          refine hK.out _ _ hS3 (fun _ => ?_)
          clear hK K hcu2 hfu2 hS2 hS3 hHeld hSd hSA
          try simp only [Act.put, List.setIfInBounds_toArray, List.set_cons_zero, List.set_cons_succ, List.getElem_toArray, List.getElem_cons_zero, List.getElem_cons_succ]
          refine wpAnyH_done (by kernel_rfl) ?_ _
          clear HAp HGo HK0 HS0 HKS hDA
          go_wp2_with fail
          go_ret
          exact ⟨_, _, rfl, HA2.out⟩
      · rw [if_pos he]
        have hcb : ((e0 : Int) != 0) = true := by rw [bne, beq_eq_false_iff_ne.2 he]; rfl
        clear hR
        go_enter Tryd.func37, Tryd.ntmps37
        go_wp2_with fail
        refine CP.out.mono ?_
        rintro e w5 ⟨rfl, hb5⟩
        have hR5 := HR.out.below hb5
        have HR6 := Lib.hid (hR5.below (w' := w5.alloc (.cells #[.int .i64 y0, .int .i64 y1, .int .i64 y2, .int .i64 y3] 23)) (by go_grown))
        clear hb5 hR5 CP HR
        go_wp2_with fail
        go_ret
        exact ⟨_, _, rfl, HR6.out⟩
end Go.Proofs.YtgkfnplgldigbaaDoor.asm
