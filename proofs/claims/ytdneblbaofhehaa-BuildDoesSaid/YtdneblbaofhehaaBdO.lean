/- Steps as rows of records; few (layer 7). -/
import Derived.Test.YtdneblbaofhehaaBdN
namespace Go.Proofs.Ytdneblbaofhehaa.bd
open Go.ChangeShapes Go.WideShapes Go.ChangeAt Go.RowKit Go.Maps
open Go.Proofs.Ytdneblbaofhehaa.ro
open Go.Proofs.Ytdneblbaofhehaa.pr
open Go.Proofs.Ytdneblbaofhehaa.ins (kb tr3)
attribute [local go_sem ↓] Go.wp_at_zero Go.wp_at_succ
set_option linter.unusedVariables false
set_option linter.unusedSimpArgs false
def enO (o : St) : List Value := [.int .i64 o.k, .int .i64 o.r, .string o.s, .int .i64 o.x.1, .int .i64 o.x.2.1, .int .i64 o.x.2.2.1, .int .i64 o.x.2.2.2]
theorem recO : Rec 7 enO := ⟨by omega, fun _ => rfl, fun x u hu => by simp [enO] at hu; rcases hu with rfl | rfl | rfl | rfl | rfl | rfl | rfl <;> rfl⟩
theorem infoO : (Try.prog.info? 35).map (fun i => (i.zero, i.size, i.bytes)) = some (some (.agg #[.int .i64 0, .int .i64 0, .string ByteArray.empty, .int .i64 0, .int .i64 0, .int .i64 0, .int .i64 0]), 7, 64) := by kernel_rfl
theorem RV.seven {w : World} {a : Option Addr} {n c : Nat} {l : List St} (h : RV 7 enO w (.slice a n c) l) (i : Nat) (o : St) (hi : l[i]? = some o) :
    ∃ b f, a = some ⟨b, f, none⟩ ∧ b < w.heap.size ∧ w.cell? ⟨b, f + i * 7, none⟩ = some (.int .i64 o.k) ∧ w.cell? ⟨b, f + i * 7 + 1, none⟩ = some (.int .i64 o.r) ∧ w.cell? ⟨b, f + i * 7 + 2, none⟩ = some (.string o.s) ∧ w.cell? ⟨b, f + i * 7 + 3, none⟩ = some (.int .i64 o.x.1) ∧ w.cell? ⟨b, f + i * 7 + 4, none⟩ = some (.int .i64 o.x.2.1) ∧ w.cell? ⟨b, f + i * 7 + 5, none⟩ = some (.int .i64 o.x.2.2.1) ∧ w.cell? ⟨b, f + i * 7 + 6, none⟩ = some (.int .i64 o.x.2.2.2) := by
  obtain ⟨b, f, e, hlt, hc⟩ := h.at i _ hi
  exact ⟨b, f, e, hlt, hc 0 _ rfl, hc 1 _ rfl, hc 2 _ rfl, hc 3 _ rfl, hc 4 _ rfl, hc 5 _ rfl, hc 6 _ rfl⟩
theorem OR.formH {α : Type} {k : Nat} {en : α → List Value} {w : World} {B e : Nat} {v : Value} {xs : List α} (h : OR k en w B e v xs) : ∃ a n cap, v = .slice a n cap ∧ n = xs.length := by
  obtain ⟨a, c, h⟩ := h.form
  exact ⟨a, _, c, h, rfl⟩
def kB (o : St) : Bool := decide (0 ≤ o.k ∧ o.k ≤ 4)
theorem step_appB {α : Type} {k : Nat} {en : α → List Value} {ops : Array Oper} {o : Oper} {a : Act} {w : World} {K : Act → World → Prop} {Q : Exit → Act → World → Prop} {E : Prop} (B : Nat) (hgd : o.guard = none) (s x : Operand) (t e : TypeId) (z : Value) (bytes : Nat)
    (ho : o.op = .call { callee := .builtin .append, args := #[s, x], argTypes := #[t, t] }) (ht : Try.prog.underlying t = some (.slice e)) (hinfo : (Try.prog.info? e).map (fun i => (i.zero, i.size, i.bytes)) = some (some z, k, bytes)) (hzs : z.cells.size = k) (hby : bytes ≤ 1000) (hr : Rec k en)
    (v : Value) (xs : List α) (p : α) (hs : a.eval s = v) (g c : Nat) (hx : a.eval x = .slice (some ⟨g, 0, none⟩) 1 c) (hown : OR k en w B e v xs) (hB : B ≤ w.heap.size) (hu : ∀ j u, (en p)[j]? = some u → w.cell? ((⟨g, 0, none⟩ : Addr).add j) = some u) (hsm : xs.length ≤ 1000000)
    (h : ∀ va vn vc w', Hid (OR k en w' B e (.slice va vn vc) (xs ++ [p])) → w.grownBy w' v.ownBlock → Hid ((Value.slice va vn vc).ownBlock = v.ownBlock ∨ (Value.slice va vn vc).ownBlock = some w.heap.size) → K (a.put o.dst (.slice va vn vc)) w') :
    if Region.wanted o (yielded ops a.tmps) = true then Oper.wp Try.prog o a w K Q else E := by
  have hw : Region.wanted o (yielded ops a.tmps) = true := by simp [Region.wanted, hgd]
  rw [if_pos hw]
  obtain ⟨i0, hi, hz0, hz1, hz2⟩ := info_parts hinfo
  have hb1 : (xs.length + 1) * bytes ≤ 140737488355328 := by
    have := Nat.mul_le_mul (show xs.length + 1 ≤ 1000001 by omega) hby
    omega
  obtain ⟨v', w', r1, r2, r3, _, r5⟩ := run_append_own_at (P := Try.prog) w B t o.type e i0 z k bytes ht hi hz0 hz1 hz2 hzs hr.1 v xs.length _ hown ⟨g, 0, none⟩ 1 c (en p) (by rw [hr.2.1]; omega) hu (hr.2.2 p) (by unfold maxLen; omega) hb1 hB
  have r2' : OR k en w' B e v' (xs ++ [p]) := by unfold OR; rw [flat_snoc, List.length_append]; exact r2
  obtain ⟨va, vc, hvv⟩ := OR.form r2'
  obtain ⟨vn, hvn⟩ : ∃ vn, (xs ++ [p]).length = vn := ⟨_, rfl⟩
  rw [hvn] at hvv
  subst hvv
  unfold Oper.wp execOp
  simp only [ho, resolve, invoke, builtin, Sem.run_bind, Sem.run_pure, Result.andThen_ok, List.map_toArray, List.map_cons, List.map_nil, hs, hx, r1]
  exact h va vn vc w' (Lib.hid r2') r3 (Lib.hid r5)
/-- what few asks of its steps. -/
def fewB (l : List St) : Prop := l.length ≤ 300 ∧ ∀ o ∈ l, o.s.size ≤ 100
set_option maxRecDepth 20000 in
set_option maxHeartbeats 4000000 in
theorem few_v (a : Option Addr) (n c : Nat) (l : List St) (w : World) (h : RV 7 enO w (.slice a n c) l) (hz : ∀ o ∈ l, o.s.size ≤ maxLen) :
    Calls Try.prog 7 #[.slice a n c] w fun e w' => Below w.heap.size w w' ∧ (e = .returned (.tuple #[.slice none 0 0, .bool false]) ∨ ∃ v, e = .returned (.tuple #[v, .bool true]) ∧ fewB l ∧ OR 7 enO w' w.heap.size 35 v (l.filter kB)) := by
  obtain ⟨hnl, hnc, hcm⟩ := h.len
  unfold maxLen at hcm
  have HR0 := Lib.hid h
  have HNL := Lib.hid hnl
  have HZ := Lib.hid hz
  clear h hnl hz
  go_enter Try.func7, Try.ntmps7
  go_wp2_with fail
  go_loopw [4, 5] (fun vm i wr => ∃ (k : Nat) (va : Option Addr) (vn vc : Nat), k ≤ n ∧ vm = .slice va vn vc ∧ i = .int .i64 (k : Int) ∧ Hid (fewB (l.take k)) ∧ Hid (OR 7 enO wr w.heap.size 35 (.slice va vn vc) ((l.take k).filter kB)) ∧ Hid (Below w.heap.size w wr)) (fun vm i _ => n - (intOf i).toNat)
  case atStart => exact ⟨0, none, 0, 0, Nat.zero_le _, rfl, rfl, Lib.hid ⟨by simp, fun o ho => by simp at ho⟩, Lib.hid (OR.nil _ _ _), Lib.hid (Below.refl _ _)⟩
  case round =>
    obtain ⟨k, va, vn, vc, hk, rfl, rfl, HF, HO, HB⟩ := hrel
    by_cases hlt : k < n
    · obtain ⟨o, ho⟩ : ∃ o, l[k]? = some o := ⟨_, List.getElem?_eq_getElem (by rw [← HNL.out]; exact hlt)⟩
      obtain ⟨b, f, rfl, hbl, c0, c1, c2, c3, c4, c5, c6⟩ := RV.seven (HR0.out.below HB.out) k o ho
      have hzo := HZ.out o (List.mem_of_getElem? ho)
      have hzI : (o.s.size : Int) ≤ 9223372036854775807 := by unfold maxLen at hzo; omega
      have hltI : (k : Int) < (n : Int) := by omega
      have htk : l.take (k + 1) = l.take k ++ [o] := by rw [List.take_add_one, ho]; rfl
      have HTK := Lib.hid htk
      obtain ⟨⟨kd, rg, sm, ⟨x0, x1, x2, x3⟩⟩, rfl⟩ : ∃ q : St, o = q := ⟨_, rfl⟩
      dsimp only at c0 c1 c2 c3 c4 c5 c6 hzI
      clear hzo htk ho
      by_cases h3 : k < 300
      · have h3I : ¬ (300 : Int) ≤ (k : Int) := by omega
        have h3N : ¬ 300 ≤ k := by omega
        by_cases h4 : sm.size ≤ 100
        · have h4I : ¬ (100 : Int) < (sm.size : Int) := by omega
          have h4N : ¬ 100 < sm.size := by omega
          have HF1 : Hid (fewB (l.take (k + 1))) := Lib.hid (by
            rw [HTK.out]
            refine ⟨by rw [List.length_append]; have := List.length_take_le k l; simp at *; omega, fun q hq => ?_⟩
            rcases List.mem_append.1 hq with hq | hq
            · exact HF.out.2 q hq
            · simp at hq; subst hq; exact h4)
          by_cases h5 : 0 ≤ kd
          · by_cases h6 : kd ≤ 4
            · have HO1 : Hid (∀ W v', OR 7 enO W w.heap.size 35 v' ((l.take k).filter kB ++ [⟨kd, rg, sm, x0, x1, x2, x3⟩]) → OR 7 enO W w.heap.size 35 v' ((l.take (k + 1)).filter kB)) := Lib.hid (fun W v' h => by
                rw [HTK.out, List.filter_append]
                have e : ([⟨kd, rg, sm, x0, x1, x2, x3⟩] : List St).filter kB = [⟨kd, rg, sm, x0, x1, x2, x3⟩] := by simp [kB, h5, h6]
                rw [e]
                exact h)
              have hvn : vn ≤ 300 := by
                have e := OR.form HO.out
                obtain ⟨a', c', e⟩ := e
                rw [Value.slice.injEq] at e
                have := List.length_filter_le kB (l.take k)
                have := List.length_take_le k l
                omega
              have HLN : Hid (((l.take k).filter kB).length ≤ 1000000) := Lib.hid (by
                have := List.length_filter_le kB (l.take k)
                have := List.length_take_le k l
                omega)
              have HGo : Hid (∀ w', Below wr.heap.size wr w' → OR 7 enO w' w.heap.size 35 (.slice va vn vc) ((l.take k).filter kB) ∧ w.heap.size ≤ w'.heap.size) := Lib.hid (fun w' hb => ⟨OR.below HO.out hb, Nat.le_trans HB.out.size hb.size⟩)
              have HApp : Hid (∀ w3 w4, Below wr.heap.size wr w3 → w3.grownBy w4 (Value.slice va vn vc).ownBlock → Below w.heap.size w w4) := Lib.hid (fun w3 w4 hb hg => by
                have hb3 := tr3 HB.out hb
                have ho3 := OR.below HO.out hb
                exact hb3.trans ⟨hg.os, hg.tape, hg.output, hg.size, fun q hq => hg.block q (Nat.lt_of_lt_of_le hq hb3.size) (fun e => by have := (ho3.lt q e.symm).1; omega)⟩)
              go_wp2_with fail
              go_region_law ((refine step_appB w.heap.size rfl _ _ 24 35 _ 64 (by rfl) Try.underlying24 infoO rfl (by decide) recO (.slice va vn vc) ((l.take k).filter kB) ⟨kd, rg, sm, x0, x1, x2, x3⟩ rfl wr.heap.size 1 (by rfl) (HGo.out _ (by go_grown)).1 (HGo.out _ (by go_grown)).2 (rec_new (by go_simp) rfl) HLN.out ?_; intro va' vn' vc' w4 ho4 hg4 hor4; have hb4 := Lib.hid (HApp.out _ w4 (by go_grown) hg4)))
              all_goals
                have HO4 := Lib.hid (HO1.out _ _ ho4.out)
                clear ho4 hg4 hor4 c0 c1 c2 c3 c4 c5 c6 HApp HGo HO1
                go_wp2_with fail
                go_roundw
                case rel => exact ⟨k + 1, _, _, _, by omega, rfl, by go_num, HF1, HO4, hb4⟩
                case measure => simp [intOf]; omega
            · have h6I : ¬ kd ≤ 4 := h6
              have HO4 : Hid (OR 7 enO wr w.heap.size 35 (.slice va vn vc) ((l.take (k + 1)).filter kB)) := Lib.hid (by
                rw [HTK.out, List.filter_append]
                have e : ([⟨kd, rg, sm, x0, x1, x2, x3⟩] : List St).filter kB = [] := by simp [kB]; omega
                rw [e, List.append_nil]
                exact HO.out)
              go_wp2_with fail
              go_roundw
              case rel => exact ⟨k + 1, _, _, _, by omega, rfl, by go_num, HF1, HO4, HB⟩
              case measure => simp [intOf]; omega
          · have h5I : ¬ 0 ≤ kd := h5
            have HO4 : Hid (OR 7 enO wr w.heap.size 35 (.slice va vn vc) ((l.take (k + 1)).filter kB)) := Lib.hid (by
                rw [HTK.out, List.filter_append]
                have e : ([⟨kd, rg, sm, x0, x1, x2, x3⟩] : List St).filter kB = [] := by simp [kB]; omega
                rw [e, List.append_nil]
                exact HO.out)
            go_wp2_with fail
            go_roundw
            case rel => exact ⟨k + 1, _, _, _, by omega, rfl, by go_num, HF1, HO4, HB⟩
            case measure => simp [intOf]; omega
        · have h4I : (100 : Int) < (sm.size : Int) := by omega
          have h4N : 100 < sm.size := by omega
          go_wp2_with fail
          go_ret2
          exact ⟨HB.out, .inl rfl⟩
      · have h3I : (300 : Int) ≤ (k : Int) := by omega
        have h3N : 300 ≤ k := by omega
        go_wp2_with fail
        go_ret2
        exact ⟨HB.out, .inl rfl⟩
    · obtain rfl : n = k := by omega
      have hlt2 : l.take n = l := by rw [HNL.out, List.take_length]
      have HF2 := HF.out
      have HO2 := HO.out
      rw [hlt2] at HF2 HO2
      have HFF := Lib.hid HF2
      have HOO := Lib.hid HO2
      clear HF HO HF2 HO2 hlt2
      go_wp2_with fail
      go_ret2
      exact ⟨HB.out, .inr ⟨_, rfl, HFF.out, HOO.out⟩⟩
end Go.Proofs.Ytdneblbaofhehaa.bd
