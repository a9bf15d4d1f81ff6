/- The document's answers to the steps of putting a program together (layer 7). -/
import Derived.Test.YtdneblbaofhehaaBdP
import Derived.BigQuiet
namespace Go.Proofs.Ytdneblbaofhehaa.bd
open Go.ChangeShapes Go.WideShapes Go.ChangeAt Go.RowKit Go.Maps
open Go.Proofs.Ytdneblbaofhehaa.ro
open Go.Proofs.Ytdneblbaofhehaa.pr
open Go.Proofs.Ytdneblbaofhehaa.ins (kb tr3)
attribute [local go_sem ↓] Go.wp_at_zero Go.wp_at_succ
set_option linter.unusedVariables false
set_option linter.unusedSimpArgs false
def enT (s : ByteArray) : List Value := [.string s]
theorem recT : Rec 1 enT := ⟨by omega, fun _ => rfl, fun x u hu => by simp [enT] at hu; rcases hu with rfl; rfl⟩
theorem infoT : (Try.prog.info? 9).map (fun i => (i.zero, i.size, i.bytes)) = some (some (.string ByteArray.empty), 1, 16) := by kernel_rfl
theorem infoN : (Try.prog.info? 3).map (fun i => (i.zero, i.size, i.bytes)) = some (some (.int .i64 0), 1, 8) := by kernel_rfl
theorem OR.rebase {α : Type} {k : Nat} {en : α → List Value} {w : World} {B e : Nat} {v : Value} {xs : List α} (h : OR k en w 0 e v xs) (hb : ∀ g, v.ownBlock = some g → B ≤ g) : OR k en w B e v xs := by
  obtain ⟨hl, h1 | ⟨g, cap, cur, h1, h2, hh, h3⟩⟩ := h
  · exact ⟨hl, .inl h1⟩
  · exact ⟨hl, .inr ⟨g, cap, cur, h1, hb g (by rw [h1]; rfl), hh, h3⟩⟩
def st0 : St := ⟨0, 0, ByteArray.empty, (0, 0, 0, 0)⟩
def ansT (l : List St) (k : Nat) : List Int := (List.range k).map fun i => ans (run (l.take i)) (l.getD i st0)
theorem ansT_len (l : List St) (k : Nat) : (ansT l k).length = k := by simp [ansT]
theorem ansT_succ {l : List St} {k : Nat} {o : St} (h : l[k]? = some o) : ansT l (k + 1) = ansT l k ++ [ans (run (l.take k)) o] := by
  have e : l.getD k st0 = o := by rw [List.getD_eq_getElem?_getD, h]; rfl
  unfold ansT
  rw [List.range_succ, List.map_append]
  simp only [List.map_cons, List.map_nil, e]
theorem ansT_at {l : List St} {k n : Nat} {o : St} (h : l[k]? = some o) (hk : k < n) : (ansT l n)[k]? = some (ans (run (l.take k)) o) := by
  have e : l.getD k st0 = o := by rw [List.getD_eq_getElem?_getD, h]; rfl
  unfold ansT
  rw [List.getElem?_map, List.getElem?_range hk]
  simp only [Option.map_some, e]
def lastC (ps : List PF) : Nat := match ps[ps.length - 1]? with
  | none => 0
  | some p => p.cs.length
def lastF (ps : List PF) (s : ByteArray) : Bool := match ps[ps.length - 1]? with
  | none => false
  | some p => (p.f s).isSome
theorem str_ne {q s : ByteArray} (h : ¬ q = s) : (q.toList == s.toList) = false := by
  rw [beq_eq_false_iff_ne]
  intro e
  exact h (Go.WideShapes.bytes_inj (by simpa [ByteArray.toList_eq] using e))
def hasB (lb : List ByteArray) (s : ByteArray) : Bool := lb.any (fun q => decide (q = s))
theorem hasB_iff (lb : List ByteArray) (s : ByteArray) : hasB lb s = true ↔ s ∈ lb := by
  unfold hasB
  rw [List.any_eq_true]
  constructor
  · rintro ⟨q, hq, e⟩
    rw [decide_eq_true_eq] at e
    exact e ▸ hq
  · intro h
    exact ⟨s, h, by simp⟩
/-- the document's variables behind k steps. -/
structure S5 (l : List St) (k fc cc : Nat) (lb : List ByteArray) : Prop where
  f : fc = (run (l.take k)).length
  c : cc = lastC (run (l.take k))
  s : ∀ s, s ∈ lb ↔ lastF (run (l.take k)) s = true
  n : lb.length ≤ k
  n1 : cc ≤ k
  n2 : fc ≤ k
theorem last_of {ps : List PF} {n : Nat} (h : n + 1 = ps.length) : ∃ p, ps[ps.length - 1]? = some p := ⟨_, List.getElem?_eq_getElem (by omega)⟩
theorem last_set {ps : List PF} {p q : PF} (h : ps[ps.length - 1]? = some p) : (ps.set (ps.length - 1) q)[(ps.set (ps.length - 1) q).length - 1]? = some q := by
  rw [List.length_set, List.getElem?_set_self (List.getElem?_eq_some_iff.1 h).1]
section
variable {l : List St} {k fc cc : Nat} {lb : List ByteArray} {o : St}
theorem S5.zero (l : List St) : S5 l 0 0 0 [] := ⟨by simp [run], by simp [run, lastC], fun s => by simp [run, lastF], Nat.le_refl _, Nat.le_refl _, Nat.le_refl _⟩
theorem S5.k0 (h : S5 l k fc cc lb) (ho : l[k]? = some o) (h0 : o.k = 0) : S5 l (k + 1) (fc + 1) 0 [] ∧ ans (run (l.take k)) o = (fc : Int) := by
  have e := run_take ho
  have e2 : stp (run (l.take k)) o = run (l.take k) ++ [pf0] := by unfold stp; rw [if_pos h0]
  have e3 : (run (l.take k) ++ [pf0])[(run (l.take k) ++ [pf0]).length - 1]? = some pf0 := by simp
  rw [e2] at e
  refine ⟨⟨by rw [e, h.f]; simp, ?_, fun s => ?_, Nat.zero_le _, Nat.zero_le _, Nat.succ_le_succ h.n2⟩, ?_⟩
  · rw [e]; unfold lastC; rw [e3]; rfl
  · rw [e]; unfold lastF; rw [e3]; simp [pf0]
  · unfold ans; rw [if_pos h0, h.f]
theorem S5.kn (h : S5 l k 0 cc lb) (ho : l[k]? = some o) (h0 : ¬ o.k = 0) : S5 l (k + 1) 0 cc lb ∧ ans (run (l.take k)) o = (if o.k = 1 then -1 else if o.k = 2 then -4 else 0) := by
  have e := run_take ho
  have hf := List.length_eq_zero_iff.1 h.f.symm
  rw [hf, stp_none h0] at e
  refine ⟨⟨by rw [e]; rfl, by rw [e, ← hf]; exact h.c, fun s => by rw [e, ← hf]; exact h.s s, Nat.le_succ_of_le h.n, Nat.le_succ_of_le h.n1, Nat.zero_le _⟩, ?_⟩
  rw [hf]
  unfold ans
  rw [if_neg h0]
  rfl
/-- a step in a function that has begun. -/
theorem S5.ks (h : S5 l k (fc + 1) cc lb) (ho : l[k]? = some o) (h0 : ¬ o.k = 0) {cc' : Nat} {lb' : List ByteArray} (hc : ∀ p : PF, p.cs.length = cc → (inF p o).cs.length = cc') (hs : ∀ p : PF, (∀ s, s ∈ lb ↔ (p.f s).isSome = true) → ∀ s, s ∈ lb' ↔ ((inF p o).f s).isSome = true) (h1 : cc' ≤ k + 1) (h2 : lb'.length ≤ k + 1) :
    S5 l (k + 1) (fc + 1) cc' lb' ∧ ans (run (l.take k)) o = (if o.k = 1 then ((cc + 1 : Nat) : Int) else if o.k = 2 then (if hasB lb o.s = true then -3 else -2) else 0) := by
  have e := run_take ho
  obtain ⟨p, hp⟩ := last_of h.f
  rw [stp_some hp h0] at e
  have hcc : p.cs.length = cc := by
    have := h.c
    unfold lastC at this
    rw [hp] at this
    exact this.symm
  have hss : ∀ s, s ∈ lb ↔ (p.f s).isSome = true := fun s => by
    have := h.s s
    unfold lastF at this
    rw [hp] at this
    exact this
  refine ⟨⟨by rw [e, List.length_set]; exact h.f, ?_, fun s => ?_, h2, h1, Nat.le_succ_of_le h.n2⟩, ?_⟩
  · rw [e]; unfold lastC; rw [last_set hp]; exact (hc p hcc).symm
  · rw [e]; unfold lastF; rw [last_set hp]; exact hs p hss s
  · rw [ans_some hp h0, hcc]
    by_cases e1 : o.s ∈ lb
    · rw [if_pos ((hasB_iff _ _).2 e1), if_pos ((hss _).1 e1)]
    · rw [if_neg (fun h => e1 ((hasB_iff _ _).1 h)), if_neg (fun h => e1 ((hss _).2 h))]
end
/-- the rows of answers and of labels. -/
def AS (w wr : World) (vo : Value) (out : List Int) (vl : Value) (lb : List ByteArray) : Prop :=
  ∃ ρ : Ro, (∀ k, k < w.heap.size → ρ k = 0) ∧ Below w.heap.size w wr ∧ RR 1 enN wr ρ 1 3 vo out ∧ RR 1 enT wr ρ 2 9 vl lb
section
variable {w wr w' : World} {vo vl v' : Value} {ot ot' : List Int} {lb lb' : List ByteArray}
theorem AS.below (h : AS w wr vo ot vl lb) (hb : Below wr.heap.size wr w') : AS w w' vo ot vl lb := by
  obtain ⟨ρ, h1, h2, h3, h4⟩ := h
  have hk := KX.below (fun _ => False) ρ 9 hb
  have e := hk.bel (fun h => h) h1 h2.size
  exact ⟨_, e.2, h2.trans e.1, h3.keep hk (fun h => h), h4.keep hk (fun h => h)⟩
theorem AS.o (h : AS w wr vo ot vl lb) : OR 1 enN wr 0 3 vo ot ∧ OR 1 enT wr 0 9 vl lb ∧ Below w.heap.size w wr := by
  obtain ⟨ρ, h1, h2, h3, h4⟩ := h
  exact ⟨h3.o, h4.o, h2⟩
theorem AS.nil (h : AS w wr vo ot vl lb) : AS w wr  vo ot (.slice none 0 0) [] := by
  obtain ⟨ρ, h1, h2, h3, h4⟩ := h
  exact ⟨ρ, h1, h2, h3, RR.nil _ _ _ _⟩
theorem AS.out (h : AS w wr vo ot vl lb) (hg : wr.grownBy w' vo.ownBlock) (ho : OR 1 enN w' 0 3 v' ot') (hor : v'.ownBlock = vo.ownBlock ∨ v'.ownBlock = some wr.heap.size) : AS w w' v' ot' vl lb := by
  obtain ⟨ρ, h1, h2, h3, h4⟩ := h
  obtain ⟨g1, g2⟩ := h3.grown hg ho hor
  have e := g2.bel (by omega) h1 h2.size
  exact ⟨_, e.2, h2.trans e.1, g1, h4.keep g2 (by omega)⟩
theorem AS.lab (h : AS w wr vo ot vl lb) (hg : wr.grownBy w' vl.ownBlock) (ho : OR 1 enT w' 0 9 v' lb') (hor : v'.ownBlock = vl.ownBlock ∨ v'.ownBlock = some wr.heap.size) : AS w w' vo ot v' lb' := by
  obtain ⟨ρ, h1, h2, h3, h4⟩ := h
  obtain ⟨g1, g2⟩ := h4.grown hg ho hor
  have e := g2.bel (by omega) h1 h2.size
  exact ⟨_, e.2, h2.trans e.1, h3.keep g2 (by omega), g1⟩
theorem AS.end (h : AS w wr vo ot vl lb) : OR 1 enN wr w.heap.size 3 vo ot ∧ Below w.heap.size w wr := by
  obtain ⟨ρ, h1, h2, h3, h4⟩ := h
  refine ⟨OR.rebase h3.o (fun g hg => ?_), h2⟩
  have hr := h3.r g hg
  by_cases hlt : g < w.heap.size
  · rw [h1 g hlt] at hr; omega
  · omega
end
set_option maxRecDepth 20000 in
set_option maxHeartbeats 4000000 in
theorem answer_v (a : Option Addr) (n c : Nat) (l : List St) (w : World) (h : RV 7 enO w (.slice a n c) l) (hk : ∀ o ∈ l, kOk o) (hn : n ≤ 300) :
    Calls Try.prog 9 #[.slice a n c] w fun e w' => ∃ v, e = .returned v ∧ OR 1 enN w' w.heap.size 3 v (ansT l n) ∧ Below w.heap.size w w' := by
  obtain ⟨hnl, hnc, hcm⟩ := h.len
  unfold maxLen at hcm
  have HR0 := Lib.hid h
  have HNL := Lib.hid hnl
  have HKK := Lib.hid hk
  clear h hnl hk
  go_enter Try.func9, Try.ntmps9
  go_wp2_with fail
  go_loopw [3, 4, 5, 6, 7] (fun vo fv cv vl iv wr => ∃ (k : Nat) (oa : Option Addr) (oc : Nat) (la : Option Addr) (lc fc cc : Nat) (lb : List ByteArray), k ≤ n ∧ vo = .slice oa (ansT l k).length oc ∧ fv = .int .i64 (fc : Int) ∧ cv = .int .i64 (cc : Int) ∧ vl = .slice la lb.length lc ∧ iv = .int .i64 (k : Int) ∧ Hid (S5 l k fc cc lb) ∧ Hid (AS w wr (.slice oa (ansT l k).length oc) (ansT l k) (.slice la lb.length lc) lb)) (fun vo fv cv vl iv _ => n - (intOf iv).toNat)
  case atStart => exact ⟨0, none, 0, none, 0, 0, 0, [], Nat.zero_le _, rfl, rfl, rfl, rfl, rfl, Lib.hid (S5.zero l), Lib.hid ⟨fun b => if b < w.heap.size then 0 else 9, fun k hk => if_pos hk, Below.refl _ _, RR.nil _ _ _ _, RR.nil _ _ _ _⟩⟩
  case round =>
    obtain ⟨k, oa, oc, la, lc, fc, cc, lb, hk, rfl, rfl, rfl, rfl, rfl, H5, HS⟩ := hrel
    by_cases hlt : k < n
    · obtain ⟨o, ho⟩ : ∃ o, l[k]? = some o := ⟨_, List.getElem?_eq_getElem (by rw [← HNL.out]; exact hlt)⟩
      obtain ⟨b, f, rfl, hbl, c0, c1, c2, c3, c4, c5, c6⟩ := RV.seven (HR0.out.below HS.out.o.2.2) k o ho
      have hltI : (k : Int) < (n : Int) := by omega
      have hkk := HKK.out o (List.mem_of_getElem? ho)
      have HTS := Lib.hid (ansT_succ ho)
      have HAT := Lib.hid ho
      obtain ⟨⟨kd, rg, sm, ⟨x0, x1, x2, x3⟩⟩, rfl⟩ : ∃ q : St, o = q := ⟨_, rfl⟩
      obtain ⟨k0, k4⟩ := hkk
      dsimp only at c0 c1 c2 c3 c4 c5 c6 k0 k4
      have hc1 := H5.out.n1
      have hc2 := H5.out.n2
      have hc3 := H5.out.n
      clear ho
      have hcs : kd = 0 ∨ kd = 1 ∨ kd = 2 ∨ kd = 3 ∨ kd = 4 := by omega
      clear k0 k4
      rcases hcs with rfl | rfl | rfl | rfl | rfl
      · have H5p := H5.out.k0 HAT.out rfl
        have H5n := Lib.hid H5p.1
        have HAN := Lib.hid (show _ = ((fc : Int) : Int) from H5p.2.trans (by simp))
        clear H5p
        replace HS := Lib.hid HS.out.nil
        have HGo : Hid (∀ w', Below wr.heap.size wr w' → AS w w' (.slice oa (ansT l k).length oc) (ansT l k) (.slice none 0 0) []) := Lib.hid (fun w' hb => HS.out.below hb)
        have HLN : Hid ((ansT l k).length ≤ 1000000) := Lib.hid (by rw [ansT_len]; omega)
        go_wp2_with ((at_builtin; refine wpList_appR rfl _ _ 29 3 _ 8 rfl Try.underlying29 infoN rfl (by decide) recN 0 (.slice oa (ansT l k).length oc) (ansT l k) rfl ⟨wr.heap.size + 1, 0, none⟩ 1 rfl ((fc : Int)) (HGo.out _ (by go_grown)).o.1 (rec_new (by go_simp) rfl) HLN.out (Nat.zero_le _) ?_))
        intro v7 w7 ho7 hg7 hor7
        have hs7 := (HGo.out _ (by go_grown)).out hg7 ho7 (by rcases hor7 with h | h; exact Or.inl h; exact Or.inr (h.trans (by simp)))
        rw [← HAN.out, ← HTS.out] at hs7 ho7
        obtain ⟨o7, c7, rfl⟩ := ho7.form
        have HS7 := Lib.hid hs7
        clear ho7 hg7 hor7 hs7 HGo HLN HS
        go_wp2_with fail
        go_roundw
        case rel => exact ⟨k + 1, o7, c7, _, _, (fc + 1), 0, [], by omega, rfl, rfl, rfl, rfl, by go_num, H5n, HS7⟩
        case measure => simp [intOf]; omega
      · cases fc with
        | zero =>
          have H5p := H5.out.kn HAT.out (by simp)
          have H5n := Lib.hid H5p.1
          have HAN := Lib.hid (show _ = (-1 : Int) from H5p.2.trans (by simp))
          clear H5p
          have HGo : Hid (∀ w', Below wr.heap.size wr w' → AS w w' (.slice oa (ansT l k).length oc) (ansT l k) (.slice la lb.length lc) lb) := Lib.hid (fun w' hb => HS.out.below hb)
          have HLN : Hid ((ansT l k).length ≤ 1000000) := Lib.hid (by rw [ansT_len]; omega)
          go_wp2_with ((at_builtin; refine wpList_appR rfl _ _ 29 3 _ 8 rfl Try.underlying29 infoN rfl (by decide) recN 0 (.slice oa (ansT l k).length oc) (ansT l k) rfl ⟨wr.heap.size + 1, 0, none⟩ 1 rfl (-1) (HGo.out _ (by go_grown)).o.1 (rec_new (by go_simp) rfl) HLN.out (Nat.zero_le _) ?_))
          intro v7 w7 ho7 hg7 hor7
          have hs7 := (HGo.out _ (by go_grown)).out hg7 ho7 (by rcases hor7 with h | h; exact Or.inl h; exact Or.inr (h.trans (by simp)))
          rw [← HAN.out, ← HTS.out] at hs7 ho7
          obtain ⟨o7, c7, rfl⟩ := ho7.form
          have HS7 := Lib.hid hs7
          clear ho7 hg7 hor7 hs7 HGo HLN HS
          go_wp2_with fail
          go_roundw
          case rel => exact ⟨k + 1, o7, c7, _, _, 0, cc, lb, by omega, rfl, rfl, rfl, rfl, by go_num, H5n, HS7⟩
          case measure => simp [intOf]; omega
        | succ fc =>
          have hf0 : ((fc + 1 : Nat) : Int) ≠ 0 := by omega
          have hf1 : (((fc + 1 : Nat) : Int) == 0) = false := by simp; omega
          have hf2 : (0 : Int) < ((fc + 1 : Nat) : Int) := by omega
          have H5p := H5.out.ks (cc' := cc + 1) (lb' := lb) HAT.out (by simp) (fun p hp => by simp [inF, pfX, hp]) (fun p hp => by simpa [inF, pfX] using hp) (by omega) (by omega)
          have H5n := Lib.hid H5p.1
          have HAN := Lib.hid (show _ = ((cc : Int) + 1 : Int) from H5p.2.trans (by simp))
          clear H5p
          have HGo : Hid (∀ w', Below wr.heap.size wr w' → AS w w' (.slice oa (ansT l k).length oc) (ansT l k) (.slice la lb.length lc) lb) := Lib.hid (fun w' hb => HS.out.below hb)
          have HLN : Hid ((ansT l k).length ≤ 1000000) := Lib.hid (by rw [ansT_len]; omega)
          go_wp2_with ((at_builtin; refine wpList_appR rfl _ _ 29 3 _ 8 rfl Try.underlying29 infoN rfl (by decide) recN 0 (.slice oa (ansT l k).length oc) (ansT l k) rfl ⟨wr.heap.size + 1, 0, none⟩ 1 rfl ((cc : Int) + 1) (HGo.out _ (by go_grown)).o.1 (rec_new (by go_simp) rfl) HLN.out (Nat.zero_le _) ?_))
          intro v7 w7 ho7 hg7 hor7
          have hs7 := (HGo.out _ (by go_grown)).out hg7 ho7 (by rcases hor7 with h | h; exact Or.inl h; exact Or.inr (h.trans (by simp)))
          rw [← HAN.out, ← HTS.out] at hs7 ho7
          obtain ⟨o7, c7, rfl⟩ := ho7.form
          have HS7 := Lib.hid hs7
          clear ho7 hg7 hor7 hs7 HGo HLN HS
          go_wp2_with fail
          go_roundw
          case rel => exact ⟨k + 1, o7, c7, _, _, (fc + 1), (cc + 1), lb, by omega, rfl, rfl, rfl, rfl, by go_num, H5n, HS7⟩
          case measure => simp [intOf]; omega
      · cases fc with
        | zero =>
          have H5p := H5.out.kn HAT.out (by simp)
          have H5n := Lib.hid H5p.1
          have HAN := Lib.hid (show _ = (-4 : Int) from H5p.2.trans (by simp))
          clear H5p
          have HGo : Hid (∀ w', Below wr.heap.size wr w' → AS w w' (.slice oa (ansT l k).length oc) (ansT l k) (.slice la lb.length lc) lb) := Lib.hid (fun w' hb => HS.out.below hb)
          have HLN : Hid ((ansT l k).length ≤ 1000000) := Lib.hid (by rw [ansT_len]; omega)
          go_wp2_with ((at_builtin; refine wpList_appR rfl _ _ 29 3 _ 8 rfl Try.underlying29 infoN rfl (by decide) recN 0 (.slice oa (ansT l k).length oc) (ansT l k) rfl ⟨wr.heap.size + 1, 0, none⟩ 1 rfl (-4) (HGo.out _ (by go_grown)).o.1 (rec_new (by go_simp) rfl) HLN.out (Nat.zero_le _) ?_))
          intro v7 w7 ho7 hg7 hor7
          have hs7 := (HGo.out _ (by go_grown)).out hg7 ho7 (by rcases hor7 with h | h; exact Or.inl h; exact Or.inr (h.trans (by simp)))
          rw [← HAN.out, ← HTS.out] at hs7 ho7
          obtain ⟨o7, c7, rfl⟩ := ho7.form
          have HS7 := Lib.hid hs7
          clear ho7 hg7 hor7 hs7 HGo HLN HS
          go_wp2_with fail
          go_roundw
          case rel => exact ⟨k + 1, o7, c7, _, _, 0, cc, lb, by omega, rfl, rfl, rfl, rfl, by go_num, H5n, HS7⟩
          case measure => simp [intOf]; omega
        | succ fc =>
          have hf0 : ((fc + 1 : Nat) : Int) ≠ 0 := by omega
          have hf1 : (((fc + 1 : Nat) : Int) == 0) = false := by simp; omega
          have hf2 : (0 : Int) < ((fc + 1 : Nat) : Int) := by omega
          obtain ⟨W, hW⟩ : ∃ W, wr.alloc (.cells #[.int .i64 2, .int .i64 rg, .string sm, .int .i64 x0, .int .i64 x1, .int .i64 x2, .int .i64 x3] 35) = W := ⟨_, rfl⟩
          have hbx : W.cell? ⟨wr.heap.size, 2, none⟩ = some (.string sm) := by rw [← hW]; exact ro.cel (heap_alloc_new wr _) 2
          have hlW : wr.heap.size < W.heap.size := by rw [← hW]; simp
          obtain ⟨X, hX⟩ : ∃ X, wr.heap.size = X := ⟨_, rfl⟩
          rw [hX] at hbx hlW
          have HX := Lib.hid hX
          have HBX := Lib.hid hbx
          have HLW := Lib.hid hlW
          have HSW := Lib.hid (HS.out.below (w' := W) (by rw [← hW]; go_grown))
          have HW := Lib.hid hW
          clear hW hbx hlW HS hX
          go_wp2_with fail
          rw [HW.out, HX.out]
          clear HW HX hbl c0 c1 c2 c3 c4 c5 c6
          go_loopw [9, 10] (fun nv jv wr => ∃ (j : Nat) (d : Int), j ≤ lb.length ∧ nv = .int .i64 d ∧ jv = .int .i64 (j : Int) ∧ Hid (d = if hasB (lb.take j) sm = true then -3 else -2) ∧ Hid (Below W.heap.size W wr)) (fun nv jv _ => lb.length - (intOf jv).toNat)
          case atStart => exact ⟨0, _, Nat.zero_le _, rfl, rfl, Lib.hid (by simp [hasB]), Lib.hid (Below.refl _ _)⟩
          case round =>
            obtain ⟨j, d, hj, rfl, rfl, HD, HB⟩ := hrel
            by_cases hlj : j < lb.length
            · obtain ⟨q, hq⟩ : ∃ q, lb[j]? = some q := ⟨_, List.getElem?_eq_getElem hlj⟩
              obtain ⟨lB, lO, rfl, hlB, hcq⟩ := RV.at (OR.rv recT (OR.below HSW.out.o.2.1 HB.out)) j q hq
              have q0 : wr.cell? ⟨lB, lO + j, none⟩ = some (.string q) := by simpa using hcq 0 _ rfl
              have q1 : wr.cell? ⟨X, 2, none⟩ = some (.string sm) := (HB.out.cell HLW.out).trans HBX.out
              have htk : lb.take (j + 1) = lb.take j ++ [q] := by rw [List.take_add_one, hq]; rfl
              have HTK := Lib.hid htk
              have hljI : (j : Int) < (lb.length : Int) := by omega
              clear htk hcq hq
              by_cases e : q = sm
              · subst e
                have HDN : Hid ((-3 : Int) = if hasB (lb.take (j + 1)) q = true then -3 else -2) := Lib.hid (by rw [HTK.out, if_pos ((hasB_iff _ _).2 (by simp))])
                clear HD HTK
                go_wp2_with fail
                go_quiet (fail)
                go_wp2_with fail
                go_roundw
                case rel => exact ⟨j + 1, _, by omega, rfl, by go_num, HDN, Lib.hid (tr3 HB.out (below_drewN _ _))⟩
                case measure => simp [intOf]; omega
              · have e2 : (q.toList == sm.toList) = false := str_ne e
                have HDN : Hid (d = if hasB (lb.take (j + 1)) sm = true then -3 else -2) := Lib.hid (by
                  rw [HTK.out, HD.out]
                  have e3 : hasB (lb.take j ++ [q]) sm = hasB (lb.take j) sm := by unfold hasB; rw [List.any_append]; simp [e]
                  rw [e3])
                clear HD HTK
                go_wp2_with fail
                go_quiet (fail)
                go_wp2_with fail
                go_roundw
                case rel => exact ⟨j + 1, _, by omega, rfl, by go_num, HDN, Lib.hid (tr3 HB.out (below_drewN _ _))⟩
                case measure => simp [intOf]; omega
            · obtain rfl : j = lb.length := by omega
              have hd := HD.out
              rw [List.take_length] at hd
              clear HD
              have HSQ := Lib.hid (HSW.out.below HB.out)
              have q1 : wr.cell? ⟨X, 2, none⟩ = some (.string sm) := (HB.out.cell HLW.out).trans HBX.out
              by_cases e : sm ∈ lb
              · rw [if_pos ((hasB_iff _ _).2 e)] at hd
                subst hd
                have H5p := H5.out.ks (cc' := cc) (lb' := lb) HAT.out (by simp) (fun p hp => by
                  show (inF p ⟨2, rg, sm, x0, x1, x2, x3⟩).cs.length = cc
                  unfold inF
                  rw [if_neg (by simp), if_pos rfl]
                  by_cases h : (p.f sm).isSome <;> simp [h, pfL, hp]) (fun p hp s => by
                  show s ∈ lb ↔ ((inF p ⟨2, rg, sm, x0, x1, x2, x3⟩).f s).isSome = true
                  unfold inF
                  rw [if_neg (by simp), if_pos rfl, if_pos ((hp sm).1 e)]
                  exact hp s) (by omega) (by omega)
                replace HS := HSQ
                have H5n := Lib.hid H5p.1
                have HAN := Lib.hid (H5p.2.trans (by rw [if_neg (by simp), if_pos rfl, if_pos ((hasB_iff _ _).2 e)]))
                clear H5p
                have HGo : Hid (∀ w', Below wr.heap.size wr w' → AS w w' (.slice oa (ansT l k).length oc) (ansT l k) (.slice la lb.length lc) lb) := Lib.hid (fun w' hb => HS.out.below hb)
                have HLN : Hid ((ansT l k).length ≤ 1000000) := Lib.hid (by rw [ansT_len]; omega)
                go_wp2_with ((at_builtin; refine wpList_appR rfl _ _ 29 3 _ 8 rfl Try.underlying29 infoN rfl (by decide) recN 0 (.slice oa (ansT l k).length oc) (ansT l k) rfl ⟨wr.heap.size, 0, none⟩ 1 rfl (-3) (HGo.out _ (by go_grown)).o.1 (rec_new (by go_simp) rfl) HLN.out (Nat.zero_le _) ?_))
                intro v7 w7 ho7 hg7 hor7
                have hs7 := (HGo.out _ (by go_grown)).out hg7 ho7 (by rcases hor7 with h | h; exact Or.inl h; exact Or.inr (h.trans (by simp)))
                rw [← HAN.out, ← HTS.out] at hs7 ho7
                obtain ⟨o7, c7, rfl⟩ := ho7.form
                have HS7 := Lib.hid hs7
                clear ho7 hg7 hor7 hs7 HGo HLN HS
                go_wp2_with fail
                go_roundw
                case rel => exact ⟨k + 1, o7, c7, _, _, (fc + 1), cc, lb, by omega, rfl, rfl, rfl, rfl, by go_num, H5n, HS7⟩
                case measure => simp [intOf]; omega
              · rw [if_neg (fun h => e ((hasB_iff _ _).1 h))] at hd
                subst hd
                have H5p := H5.out.ks (cc' := cc) (lb' := lb ++ [sm]) HAT.out (by simp) (fun p hp => by
                  show (inF p ⟨2, rg, sm, x0, x1, x2, x3⟩).cs.length = cc
                  unfold inF
                  rw [if_neg (by simp), if_pos rfl]
                  by_cases h : (p.f sm).isSome <;> simp [h, pfL, hp]) (fun p hp s => by
                  show s ∈ lb ++ [sm] ↔ ((inF p ⟨2, rg, sm, x0, x1, x2, x3⟩).f s).isSome = true
                  unfold inF
                  rw [if_neg (by simp), if_pos rfl, if_neg (fun h => e ((hp sm).2 h))]
                  show _ ↔ (if s = sm then some (p.cs.length : Int) else p.f s).isSome = true
                  by_cases h : s = sm
                  · simp [h]
                  · rw [if_neg h, ← hp s]; simp [h]) (by omega) (by simp; omega)
                have H5n := Lib.hid H5p.1
                have HAN := Lib.hid (H5p.2.trans (by rw [if_neg (by simp), if_pos rfl, if_neg (fun h => e ((hasB_iff _ _).1 h))]))
                have HGl : Hid (∀ w', Below wr.heap.size wr w' → AS w w' (.slice oa (ansT l k).length oc) (ansT l k) (.slice la lb.length lc) lb) := Lib.hid (fun w' hb => HSQ.out.below hb)
                have HLB : Hid (lb.length ≤ 1000000) := Lib.hid (by omega)
                clear H5p
                go_wp2_with ((at_builtin; refine wpList_appR rfl _ _ 57 9 _ 16 rfl Try.underlying57 infoT rfl (by decide) recT 0 (.slice la lb.length lc) lb rfl ⟨wr.heap.size, 0, none⟩ 1 rfl sm (HGl.out _ (by go_grown)).o.2.1 (rec_new rfl rfl) HLB.out (Nat.zero_le _) ?_))
                intro v6 w6 ho6 hg6 hor6
                have hs6 := (HGl.out _ (by go_grown)).lab hg6 ho6 (by rcases hor6 with h | h; exact Or.inl h; exact Or.inr (h.trans (by simp)))
                obtain ⟨la6, lc6, rfl⟩ := ho6.form
                have HS := Lib.hid hs6
                clear ho6 hg6 hor6 hs6 HGl HLB q1
                skip
                have HGo : Hid (∀ w', Below w6.heap.size w6 w' → AS w w' (.slice oa (ansT l k).length oc) (ansT l k) (.slice la6 (lb ++ [sm]).length lc6) (lb ++ [sm])) := Lib.hid (fun w' hb => HS.out.below hb)
                have HLN : Hid ((ansT l k).length ≤ 1000000) := Lib.hid (by rw [ansT_len]; omega)
                go_wp2_with ((at_builtin; refine wpList_appR rfl _ _ 29 3 _ 8 rfl Try.underlying29 infoN rfl (by decide) recN 0 (.slice oa (ansT l k).length oc) (ansT l k) rfl ⟨w6.heap.size, 0, none⟩ 1 rfl (-2) (HGo.out _ (by go_grown)).o.1 (rec_new (by go_simp) rfl) HLN.out (Nat.zero_le _) ?_))
                intro v7 w7 ho7 hg7 hor7
                have hs7 := (HGo.out _ (by go_grown)).out hg7 ho7 (by rcases hor7 with h | h; exact Or.inl h; exact Or.inr (h.trans (by simp)))
                rw [← HAN.out, ← HTS.out] at hs7 ho7
                obtain ⟨o7, c7, rfl⟩ := ho7.form
                have HS7 := Lib.hid hs7
                clear ho7 hg7 hor7 hs7 HGo HLN HS
                go_wp2_with fail
                go_roundw
                case rel => exact ⟨k + 1, o7, c7, _, _, (fc + 1), cc, (lb ++ [sm]), by omega, rfl, rfl, rfl, by simp, by go_num, H5n, HS7⟩
                case measure => simp [intOf]; omega
      · cases fc with
        | zero =>
          have H5p := H5.out.kn HAT.out (by simp)
          have H5n := Lib.hid H5p.1
          have HAN := Lib.hid (show _ = (0 : Int) from H5p.2.trans (by simp))
          clear H5p
          have HGo : Hid (∀ w', Below wr.heap.size wr w' → AS w w' (.slice oa (ansT l k).length oc) (ansT l k) (.slice la lb.length lc) lb) := Lib.hid (fun w' hb => HS.out.below hb)
          have HLN : Hid ((ansT l k).length ≤ 1000000) := Lib.hid (by rw [ansT_len]; omega)
          go_wp2_with ((at_builtin; refine wpList_appR rfl _ _ 29 3 _ 8 rfl Try.underlying29 infoN rfl (by decide) recN 0 (.slice oa (ansT l k).length oc) (ansT l k) rfl ⟨wr.heap.size + 1, 0, none⟩ 1 rfl (0) (HGo.out _ (by go_grown)).o.1 (rec_new (by go_simp) rfl) HLN.out (Nat.zero_le _) ?_))
          intro v7 w7 ho7 hg7 hor7
          have hs7 := (HGo.out _ (by go_grown)).out hg7 ho7 (by rcases hor7 with h | h; exact Or.inl h; exact Or.inr (h.trans (by simp)))
          rw [← HAN.out, ← HTS.out] at hs7 ho7
          obtain ⟨o7, c7, rfl⟩ := ho7.form
          have HS7 := Lib.hid hs7
          clear ho7 hg7 hor7 hs7 HGo HLN HS
          go_wp2_with fail
          go_roundw
          case rel => exact ⟨k + 1, o7, c7, _, _, 0, cc, lb, by omega, rfl, rfl, rfl, rfl, by go_num, H5n, HS7⟩
          case measure => simp [intOf]; omega
        | succ fc =>
          have hf0 : ((fc + 1 : Nat) : Int) ≠ 0 := by omega
          have hf1 : (((fc + 1 : Nat) : Int) == 0) = false := by simp; omega
          have hf2 : (0 : Int) < ((fc + 1 : Nat) : Int) := by omega
          have H5p := H5.out.ks (cc' := cc + 1) (lb' := lb) HAT.out (by simp) (fun p hp => by simp [inF, pfJ, hp]) (fun p hp => by simpa [inF, pfJ] using hp) (by omega) (by omega)
          have H5n := Lib.hid H5p.1
          have HAN := Lib.hid (show _ = (0 : Int) from H5p.2.trans (by simp))
          clear H5p
          have HGo : Hid (∀ w', Below wr.heap.size wr w' → AS w w' (.slice oa (ansT l k).length oc) (ansT l k) (.slice la lb.length lc) lb) := Lib.hid (fun w' hb => HS.out.below hb)
          have HLN : Hid ((ansT l k).length ≤ 1000000) := Lib.hid (by rw [ansT_len]; omega)
          go_wp2_with ((at_builtin; refine wpList_appR rfl _ _ 29 3 _ 8 rfl Try.underlying29 infoN rfl (by decide) recN 0 (.slice oa (ansT l k).length oc) (ansT l k) rfl ⟨wr.heap.size + 1, 0, none⟩ 1 rfl (0) (HGo.out _ (by go_grown)).o.1 (rec_new (by go_simp) rfl) HLN.out (Nat.zero_le _) ?_))
          intro v7 w7 ho7 hg7 hor7
          have hs7 := (HGo.out _ (by go_grown)).out hg7 ho7 (by rcases hor7 with h | h; exact Or.inl h; exact Or.inr (h.trans (by simp)))
          rw [← HAN.out, ← HTS.out] at hs7 ho7
          obtain ⟨o7, c7, rfl⟩ := ho7.form
          have HS7 := Lib.hid hs7
          clear ho7 hg7 hor7 hs7 HGo HLN HS
          go_wp2_with fail
          go_roundw
          case rel => exact ⟨k + 1, o7, c7, _, _, (fc + 1), (cc + 1), lb, by omega, rfl, rfl, rfl, rfl, by go_num, H5n, HS7⟩
          case measure => simp [intOf]; omega
      · cases fc with
        | zero =>
          have H5p := H5.out.kn HAT.out (by simp)
          have H5n := Lib.hid H5p.1
          have HAN := Lib.hid (show _ = (0 : Int) from H5p.2.trans (by simp))
          clear H5p
          have HGo : Hid (∀ w', Below wr.heap.size wr w' → AS w w' (.slice oa (ansT l k).length oc) (ansT l k) (.slice la lb.length lc) lb) := Lib.hid (fun w' hb => HS.out.below hb)
          have HLN : Hid ((ansT l k).length ≤ 1000000) := Lib.hid (by rw [ansT_len]; omega)
          go_wp2_with ((at_builtin; refine wpList_appR rfl _ _ 29 3 _ 8 rfl Try.underlying29 infoN rfl (by decide) recN 0 (.slice oa (ansT l k).length oc) (ansT l k) rfl ⟨wr.heap.size + 1, 0, none⟩ 1 rfl (0) (HGo.out _ (by go_grown)).o.1 (rec_new (by go_simp) rfl) HLN.out (Nat.zero_le _) ?_))
          intro v7 w7 ho7 hg7 hor7
          have hs7 := (HGo.out _ (by go_grown)).out hg7 ho7 (by rcases hor7 with h | h; exact Or.inl h; exact Or.inr (h.trans (by simp)))
          rw [← HAN.out, ← HTS.out] at hs7 ho7
          obtain ⟨o7, c7, rfl⟩ := ho7.form
          have HS7 := Lib.hid hs7
          clear ho7 hg7 hor7 hs7 HGo HLN HS
          go_wp2_with fail
          go_roundw
          case rel => exact ⟨k + 1, o7, c7, _, _, 0, cc, lb, by omega, rfl, rfl, rfl, rfl, by go_num, H5n, HS7⟩
          case measure => simp [intOf]; omega
        | succ fc =>
          have hf0 : ((fc + 1 : Nat) : Int) ≠ 0 := by omega
          have hf1 : (((fc + 1 : Nat) : Int) == 0) = false := by simp; omega
          have hf2 : (0 : Int) < ((fc + 1 : Nat) : Int) := by omega
          have H5p := H5.out.ks (cc' := cc + 1) (lb' := lb) HAT.out (by simp) (fun p hp => by simp [inF, pfJ, hp]) (fun p hp => by simpa [inF, pfJ] using hp) (by omega) (by omega)
          have H5n := Lib.hid H5p.1
          have HAN := Lib.hid (show _ = (0 : Int) from H5p.2.trans (by simp))
          clear H5p
          have HGo : Hid (∀ w', Below wr.heap.size wr w' → AS w w' (.slice oa (ansT l k).length oc) (ansT l k) (.slice la lb.length lc) lb) := Lib.hid (fun w' hb => HS.out.below hb)
          have HLN : Hid ((ansT l k).length ≤ 1000000) := Lib.hid (by rw [ansT_len]; omega)
          go_wp2_with ((at_builtin; refine wpList_appR rfl _ _ 29 3 _ 8 rfl Try.underlying29 infoN rfl (by decide) recN 0 (.slice oa (ansT l k).length oc) (ansT l k) rfl ⟨wr.heap.size + 1, 0, none⟩ 1 rfl (0) (HGo.out _ (by go_grown)).o.1 (rec_new (by go_simp) rfl) HLN.out (Nat.zero_le _) ?_))
          intro v7 w7 ho7 hg7 hor7
          have hs7 := (HGo.out _ (by go_grown)).out hg7 ho7 (by rcases hor7 with h | h; exact Or.inl h; exact Or.inr (h.trans (by simp)))
          rw [← HAN.out, ← HTS.out] at hs7 ho7
          obtain ⟨o7, c7, rfl⟩ := ho7.form
          have HS7 := Lib.hid hs7
          clear ho7 hg7 hor7 hs7 HGo HLN HS
          go_wp2_with fail
          go_roundw
          case rel => exact ⟨k + 1, o7, c7, _, _, (fc + 1), (cc + 1), lb, by omega, rfl, rfl, rfl, rfl, by go_num, H5n, HS7⟩
          case measure => simp [intOf]; omega
    · obtain rfl : n = k := by omega
      have HE := Lib.hid HS.out.end
      clear HS H5
      go_wp2_with fail
      go_ret
      exact ⟨_, rfl, HE.out.1, HE.out.2⟩
end Go.Proofs.Ytdneblbaofhehaa.bd
