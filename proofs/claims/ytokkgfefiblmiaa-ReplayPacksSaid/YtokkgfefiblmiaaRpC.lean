/- The script that is in short: the program and the document (layer 43). -/
import Derived.Test.YtokkgfefiblmiaaRpG
import Derived.Deep.RegionLaw
import Derived.Deep.RegionHeld3
import Derived.Deep.DrawnRows
import Derived.Lib.IndexBytes
namespace Go.Proofs.Ytokkgfefiblmiaa.rp
open Go.ChangeShapes Go.WideShapes Go.ChangeAt Go.RowKit
open Go.Proofs.Ytokkgfefiblmiaa.bits
set_option linter.unusedVariables false
set_option linter.unusedSimpArgs false
theorem rec_new {α : Type} {en : α → List Value} {w : World} {cs : Array Value} {e g : Nat} (hg : w.heap.size = g) {p : α} (hp : cs.toList = en p) : ∀ j u, (en p)[j]? = some u → (w.alloc (.cells cs e)).cell? ((⟨g, 0, none⟩ : Addr).add j) = some u := by
  intro j u hu
  subst hg
  rw [← hp] at hu
  have h2 : cs[j]? = some u := by simpa using hu
  have := ro.heap_new w (.cells cs e)
  rw [Go.WideShapes.add_plain, Nat.zero_add]
  simp only [World.cell?]
  rw [this]
  exact h2
theorem step_appB {α : Type} {k : Nat} {en : α → List Value} {ops : Array Oper} {o : Oper} {a : Act} {w : World} {K : Act → World → Prop} {Q : Exit → Act → World → Prop} {E : Prop} (B : Nat) (hgd : o.guard = none) (s x : Operand) (t e : TypeId) (z : Value) (bytes : Nat)
    (ho : o.op = .call { callee := .builtin .append, args := #[s, x], argTypes := #[t, t] }) (ht : Try.prog.underlying t = some (.slice e)) (hinfo : (Try.prog.info? e).map (fun i => (i.zero, i.size, i.bytes)) = some (some z, k, bytes)) (hzs : z.cells.size = k) (hby : bytes ≤ 1000) (hr : Rec k en)
    (v : Value) (xs : List α) (p : α) (hs : a.eval s = v) (g c : Nat) (hx : a.eval x = .slice (some ⟨g, 0, none⟩) 1 c) (hown : OR k en w B e v xs) (hB : B ≤ w.heap.size) (hu : ∀ j u, (en p)[j]? = some u → w.cell? ((⟨g, 0, none⟩ : Addr).add j) = some u) (hsm : xs.length ≤ 1000000)
    (h : ∀ va vn vc w', Hid (OR k en w' B e (.slice va vn vc) (xs ++ [p])) → w.grownBy w' v.ownBlock → Hid ((Value.slice va vn vc).ownBlock = v.ownBlock ∨ (Value.slice va vn vc).ownBlock = some w.heap.size) → K (a.put o.dst (.slice va vn vc)) w') :
    if Region.wanted o (yielded ops a.tmps) = true then Oper.wp Try.prog o a w K Q else E := by
  have hw : Region.wanted o (yielded ops a.tmps) = true := by simp [Region.wanted, hgd]
  rw [if_pos hw]
  obtain ⟨i0, hi, hz0, hz1, hz2⟩ := info_parts hinfo
  have hb1 : (xs.length + 1) * bytes ≤ 140737488355328 := by
    have := Nat.mul_le_mul (show xs.length + 1 ≤ 1000001 by omega) hby
    omega
  obtain ⟨v', w', r1, r2, r3, _, r5⟩ := run_append_own_at (P := Try.prog) w B t o.type e i0 z k bytes ht hi hz0 hz1 hz2 hzs hr.1 v xs.length _ hown ⟨g, 0, none⟩ 1 c (en p) (by rw [hr.2.1]; omega) hu (hr.2.2 p) (by unfold maxLen; omega) hb1 hB
  have r2' : OR k en w' B e v' (xs ++ [p]) := by unfold OR; rw [flat_snoc, List.length_append]; exact r2
  obtain ⟨va, vc, hvv⟩ := OR.form r2'
  obtain ⟨vn, hvn⟩ : ∃ vn, (xs ++ [p]).length = vn := ⟨_, rfl⟩
  rw [hvn] at hvv
  subst hvv
  unfold Oper.wp execOp
  simp only [ho, resolve, invoke, builtin, Sem.run_bind, Sem.run_pure, Result.andThen_ok, List.map_toArray, List.map_cons, List.map_nil, hs, hx, r1]
  exact h va vn vc w' (Lib.hid r2') r3 (Lib.hid r5)
theorem OR.low {α : Type} {k : Nat} {en : α → List Value} {w : World} {B B' e : Nat} {v : Value} {xs : List α} (h : OR k en w B e v xs) (hb : B' ≤ B) : OR k en w B' e v xs := by
  obtain ⟨hl, h1 | ⟨g, cap, cur, h1, h2, hh, h3⟩⟩ := h
  · exact ⟨hl, .inl h1⟩
  · exact ⟨hl, .inr ⟨g, cap, cur, h1, by omega, hh, h3⟩⟩
/-- a script out of bytes, or what is wrong. -/
def UpP (w : World) (L : List UInt8) (e : Ending) (w' : World) : Prop := Below w.heap.size w w' ∧
  if L.length % 3 = 0 then ∃ v, e = .returned (.tuple #[v, .int .i64 0]) ∧ OR 2 enQ w' w.heap.size 60 v (up L) else e = .returned (.tuple #[.slice none 0 0, .int .i64 1])
theorem str_at (f : List UInt8) (i : Nat) (h : i < (⟨f.toArray⟩ : ByteArray).size) : (⟨f.toArray⟩ : ByteArray)[i]'h = f.getD i 0 := by
  have h2 : i < f.length := by
    have h3 : i < f.toArray.size := h
    simpa using h3
  show f.toArray[i] = _
  simp [List.getD_eq_getElem?_getD, List.getElem?_eq_getElem h2]
theorem str_size (f : List UInt8) : (⟨f.toArray⟩ : ByteArray).size = f.length := by show f.toArray.size = _; simp
theorem up_yes {w w' : World} {L : List UInt8} {v : Value} (h : L.length % 3 = 0) (hb : Below w.heap.size w w') (ho : OR 2 enQ w' w.heap.size 60 v (up L)) : UpP w L (.returned (.tuple #[v, .int .i64 0])) w' := by
  unfold UpP
  rw [if_pos h]
  exact ⟨hb, v, rfl, ho⟩
theorem up_no {w w' : World} {L : List UInt8} (h : ¬ L.length % 3 = 0) (hb : Below w.heap.size w w') : UpP w L (.returned (.tuple #[.slice none 0 0, .int .i64 1])) w' := by
  unfold UpP
  rw [if_neg h]
  exact ⟨hb, rfl⟩
theorem own_b {α : Type} {k : Nat} {en : α → List Value} {w : World} {B e : Nat} {v : Value} {xs : List α} (h : OR k en w B e v xs) (w' : World) (hb : Below w.heap.size w w') (hB : B ≤ w.heap.size) : OR k en w' B e v xs ∧ B ≤ w'.heap.size := ⟨OR.below h hb, Nat.le_trans hB hb.size⟩
theorem own_g {α : Type} {k : Nat} {en : α → List Value} {w w' : World} {B e : Nat} {v : Value} {xs : List α} (h : OR k en w B e v xs) (hg : w.grownBy w' v.ownBlock) (hB : B ≤ w.heap.size) : Below B w w' :=
  ⟨hg.os, hg.tape, hg.output, hg.size, fun q hq => hg.block q (Nat.lt_of_lt_of_le hq hB) (fun e => by have := (h.lt q e.symm).1; omega)⟩
set_option maxRecDepth 20000 in
set_option maxHeartbeats 4000000 in
theorem runpack_v (L : List UInt8) (w : World) (hn : L.length ≤ 2200) :
    Calls Try.prog 15 #[.string ⟨L.toArray⟩] w (UpP w L) := by
  have hsz := str_size L
  have HY : Hid (∀ v w', L.length % 3 = 0 → Below w.heap.size w w' → OR 2 enQ w' w.heap.size 60 v (up L) → UpP w L (.returned (.tuple #[v, .int .i64 0])) w') := Lib.hid (fun v w' h1 h2 h3 => up_yes h1 h2 h3)
  have HNo : Hid (∀ w', ¬ L.length % 3 = 0 → Below w.heap.size w w' → UpP w L (.returned (.tuple #[.slice none 0 0, .int .i64 1])) w') := Lib.hid (fun w' h1 h2 => up_no h1 h2)
  obtain ⟨P, hP⟩ : ∃ P, UpP w L = P := ⟨_, rfl⟩
  rw [hP] at HY HNo ⊢
  clear hP
  obtain ⟨n, hnn⟩ : ∃ n, L.length = n := ⟨_, rfl⟩
  have HNL := Lib.hid hnn
  have hmod : (n : Int).tmod 3 = ((n % 3 : Nat) : Int) := by rw [Int.tmod_eq_emod_of_nonneg (by omega)]; push_cast; rfl
  rw [hnn] at hsz hn HY HNo
  clear hnn
  obtain ⟨r, hr⟩ : ∃ r, n % 3 = r := ⟨_, rfl⟩
  rw [hr] at hmod HY HNo
  by_cases hr0 : r = 0
  · subst hr0
    obtain ⟨T, hT⟩ : ∃ T, n = 3 * T := ⟨n / 3, by omega⟩
    have HT := Lib.hid hT
    have HE : Hid (∀ v w', Below w.heap.size w w' → OR 2 enQ w' w.heap.size 60 v (up L) → P (.returned (.tuple #[v, .int .i64 0])) w') := Lib.hid (fun v w' => HY.out v w' rfl)
    clear hr hT HY HNo
    go_enter Try.func15, Try.ntmps15
    go_wp2_with fail
    go_loopw [4, 5] (fun vm iv wr => ∃ (t : Nat) (va : Option Addr) (vn vc : Nat), t ≤ T ∧ vm = .slice va vn vc ∧ iv = .int .i64 ((3 * t : Nat) : Int) ∧ Hid (∃ xs, OR 2 enQ wr w.heap.size 60 (.slice va vn vc) xs ∧ xs ++ up (L.drop (3 * t)) = up L ∧ xs.length ≤ 256 * t) ∧ Hid (Below w.heap.size w wr)) (fun vm iv _ => n - (intOf iv).toNat)
    case atStart => exact ⟨0, none, 0, 0, Nat.zero_le _, rfl, rfl, Lib.hid ⟨[], OR.nil _ _ _, rfl, Nat.le_refl _⟩, Lib.hid (Below.refl _ _)⟩
    case round =>
      obtain ⟨t, va, vn, vc, ht, rfl, rfl, HX, HB⟩ := hrel
      by_cases hlt : t < T
      · obtain ⟨xs, hxo, hxu, hxl⟩ := HX.out
        obtain ⟨i, hi⟩ : ∃ i, 3 * t = i := ⟨_, rfl⟩
        rw [hi] at hxu ⊢
        have HI := Lib.hid hi
        have hin : i + 2 < n := by have := HT.out; omega
        have hi0 : i < n := by omega
        have hiI : (i : Int) < (n : Int) := by omega
        have hw1 : IntKind.i64.wrap ((i : Int) + 1) = ((i + 1 : Nat) : Int) := by rw [IntKind.wrap_i64]; omega
        have hw2 : IntKind.i64.wrap ((i : Int) + 2) = ((i + 2 : Nat) : Int) := by rw [IntKind.wrap_i64]; omega
        have hp1 : (i : Int) + 1 < (n : Int) := by omega
        have hp2 : (i : Int) + 2 < (n : Int) := by omega
        have hq1 : 0 ≤ (i : Int) + 1 := by omega
        have hq2 : 0 ≤ (i : Int) + 2 := by omega
        have hz0 : i < (⟨L.toArray⟩ : ByteArray).size := by rw [hsz]; omega
        have hz1 : i + 1 < (⟨L.toArray⟩ : ByteArray).size := by rw [hsz]; omega
        have hz2 : i + 2 < (⟨L.toArray⟩ : ByteArray).size := by rw [hsz]; omega
        have hat0 := str_at L i hz0
        have hat1 := str_at L (i + 1) hz1
        have hat2 := str_at L (i + 2) hz2
        have gat : ∀ j, j < n → L[j]? = some (L.getD j 0) := fun j hj => by rw [List.getD_eq_getElem?_getD, List.getElem?_eq_getElem (by rw [HNL.out]; exact hj)]; rfl
        have hup := up_at (gat i hi0) (gat (i + 1) (by omega)) (gat (i + 2) hin)
        obtain ⟨A, hA⟩ : ∃ A, L.getD i 0 = A := ⟨_, rfl⟩
        obtain ⟨Bq, hBq⟩ : ∃ B, L.getD (i + 1) 0 = B := ⟨_, rfl⟩
        obtain ⟨Cq, hCq⟩ : ∃ C, L.getD (i + 2) 0 = C := ⟨_, rfl⟩
        rw [hA] at hat0 hup
        rw [hBq] at hat1 hup
        rw [hCq] at hat2 hup
        have hcl : Cq.toNat < 256 := Cq.toNat_lt
        have hal : A.toNat < 256 := A.toNat_lt
        have hbl : Bq.toNat < 256 := Bq.toNat_lt
        have hwA : IntKind.i64.wrap (A.toNat : Int) = (A.toNat : Int) := by rw [IntKind.wrap_i64]; omega
        have hwB : IntKind.i64.wrap (Bq.toNat : Int) = (Bq.toNat : Int) := by rw [IntKind.wrap_i64]; omega
        have hwC : IntKind.i64.wrap (Cq.toNat : Int) = (Cq.toNat : Int) := by rw [IntKind.wrap_i64]; omega
        rw [hup] at hxu
        have HXU := Lib.hid hxu
        have HXL := Lib.hid hxl
        have HXO : Hid (OR 2 enQ wr w.heap.size 60 (.slice va vn vc) (xs ++ List.replicate 0 ((A.toNat : Int), (Bq.toNat : Int)))) := Lib.hid (by rw [List.replicate_zero, List.append_nil]; exact hxo)
        have ht2 : t ≤ 800 := by have := HT.out; omega
        clear hi hxu hxl hxo HX hup gat hA hBq hCq
        go_wp2_with fail
        go_loopw [4, 6] (fun vm kv wr' => ∃ (q : Nat) (va : Option Addr) (vn vc : Nat), q ≤ Cq.toNat + 1 ∧ vm = .slice va vn vc ∧ kv = .int .i64 (q : Int) ∧ Hid (OR 2 enQ wr' w.heap.size 60 (.slice va vn vc) (xs ++ List.replicate q ((A.toNat : Int), (Bq.toNat : Int)))) ∧ Hid (Below w.heap.size w wr')) (fun vm kv _ => Cq.toNat + 1 - (intOf kv).toNat)
        case atStart => exact ⟨0, va, vn, vc, Nat.zero_le _, rfl, rfl, HXO, HB⟩
        case round =>
          obtain ⟨q, va2, vn2, vc2, hq, rfl, rfl, HO, HB2⟩ := hrel
          clear HXO HB
          by_cases hqc : q ≤ Cq.toNat
          · have hqI : (q : Int) ≤ (Cq.toNat : Int) := by omega
            have HGo := Lib.hid (fun W hb => own_b HO.out W hb HB2.out.size)
            have HLN : Hid ((xs ++ List.replicate q ((A.toNat : Int), (Bq.toNat : Int))).length ≤ 1000000) := Lib.hid (by rw [List.length_append, List.length_replicate]; have := HXL.out; omega)
            have HApp : Hid (∀ w3 w4, Below wr.heap.size wr w3 → w3.grownBy w4 (Value.slice va2 vn2 vc2).ownBlock → Below w.heap.size w w4) := Lib.hid (fun w3 w4 hb hg => by
              obtain ⟨h1, h2⟩ := HGo.out _ hb
              exact (tr3 HB2.out hb).trans (own_g h1 hg h2))
            go_wp2_with fail
            go_region_law ((refine step_appB w.heap.size rfl _ _ 34 60 _ 16 (by rfl) Try.underlying34 infoQ rfl (by decide) recQ (.slice va2 vn2 vc2) (xs ++ List.replicate q ((A.toNat : Int), (Bq.toNat : Int))) ((A.toNat : Int), (Bq.toNat : Int)) rfl wr.heap.size 1 (by rfl) (HGo.out _ (by go_grown)).1 (HGo.out _ (by go_grown)).2 (rec_new (by go_simp) rfl) HLN.out ?_; intro va' vn' vc' w4 ho4 hg4 hor4; have hb4 := Lib.hid (HApp.out _ w4 (by go_grown) hg4)))
            all_goals
              have HO4 : Hid (OR 2 enQ w4 w.heap.size 60 (.slice va' vn' vc') (xs ++ List.replicate (q + 1) ((A.toNat : Int), (Bq.toNat : Int)))) := Lib.hid (by
                have := ho4.out
                rw [List.append_assoc, ← List.replicate_succ'] at this
                exact this)
              clear ho4 hg4 hor4 HApp HGo HLN
              go_wp2_with fail
              go_roundw
              case rel => exact ⟨q + 1, _, _, _, by omega, rfl, by go_num, HO4, hb4⟩
              case measure => simp [intOf]; omega
          · obtain rfl : q = Cq.toNat + 1 := by omega
            have hqI : ¬ ((Cq.toNat : Int) + 1 ≤ (Cq.toNat : Int)) := by omega
            have hqI2 : ¬ (((Cq.toNat + 1 : Nat) : Int) ≤ (Cq.toNat : Int)) := by omega
            have HXN : Hid (∃ xs, OR 2 enQ wr w.heap.size 60 (.slice va2 vn2 vc2) xs ∧ xs ++ up (L.drop (3 * (t + 1))) = up L ∧ xs.length ≤ 256 * (t + 1)) := Lib.hid ⟨_, HO.out, by rw [List.append_assoc, show 3 * (t + 1) = i + 3 by have := HI.out; omega]; exact HXU.out, by rw [List.length_append, List.length_replicate]; have := HXL.out; omega⟩
            have hi3 : IntKind.i64.wrap ((i : Int) + 3) = ((3 * (t + 1) : Nat) : Int) := by have := HI.out; rw [IntKind.wrap_i64]; omega
            have hi4 : (i : Int) + 3 = ((3 * (t + 1) : Nat) : Int) := by have := HI.out; omega
            clear HO HXU HXL
            go_wp2_with fail
            go_roundw
            case rel => exact ⟨t + 1, va2, vn2, vc2, by omega, rfl, by first | rfl | go_num, HXN, HB2⟩
            case measure => simp [intOf]; omega
      · obtain rfl : t = T := by omega
        have htn : ¬ ((3 * t : Nat) : Int) < (n : Int) := by have := HT.out; omega
        have HEE : Hid (OR 2 enQ wr w.heap.size 60 (.slice va vn vc) (up L)) := Lib.hid (by
          obtain ⟨xs, hxo, hxu, hxl⟩ := HX.out
          rw [show 3 * t = L.length by rw [HNL.out]; exact HT.out.symm, List.drop_length] at hxu
          have : xs = up L := by rw [← hxu]; simp [up]
          rw [← this]
          exact hxo)
        have HBB := HB
        clear HX
        obtain ⟨z, hz⟩ : ∃ z, 3 * t = z := ⟨_, rfl⟩
        rw [hz] at htn ⊢
        clear hz
        go_wp2_with fail
        exact HE.out _ _ HBB.out HEE.out
  · have hrI : ((r : Int) == 0) = false := by simp; omega
    have hrI2 : ¬ (r : Int) = 0 := by omega
    have hrn : ((r : Int) != 0) = true := by simp; omega
    have HE : Hid (P (.returned (.tuple #[.slice none 0 0, .int .i64 1])) w) := Lib.hid (HNo.out w (by omega) (Below.refl _ _))
    clear HY HNo
    go_enter Try.func15, Try.ntmps15
    go_wp2_with fail
    exact HE.out
end Go.Proofs.Ytokkgfefiblmiaa.rp
