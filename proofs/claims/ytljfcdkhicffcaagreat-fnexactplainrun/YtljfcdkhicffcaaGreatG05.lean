import Derived.Test.YtljfcdkhicffcaaGreatG04
import Derived.Deep.AppendLies
namespace Go.Proofs.YtljfcdkhicffcaaGreat
set_option linter.unusedVariables false
set_option linter.unusedSimpArgs false
set_option maxRecDepth 100000
set_option maxHeartbeats 16000000
open Go.RowKit Go
structure Grew (w : World) (v : Value) (w' : World) (v' : Value) : Prop where
 kept : Kept (fun b => v.ownBlock = some b) w w'
 own : ∀ b, v'.ownBlock = some b → v.ownBlock = some b ∨ w.heap.size ≤ b
theorem Grew.trans {w w1 w2 : World} {v v1 v2 : Value} (h : Grew w v w1 v1) (k : Grew w1 v1 w2 v2) : Grew w v w2 v2 := by
 refine ⟨h.kept.next k.kept (fun i hi e => (h.own i e).resolve_right (by omega)), fun b hb => ?_⟩
 rcases k.own b hb with h1 | h1
 ·exact h.own b h1
 ·have := h.kept.size
  exact .inr (by omega)
theorem Grew.of_same {w w' : World} {v : Value} (h : Same w w') : Grew w v w' v := ⟨h.mono (fun _ _ e => absurd e id), fun b hb => .inl hb⟩
theorem Grew.refl (w : World) (v : Value) : Grew w v w v := Grew.of_same kZ0
theorem Grew.size {w w' : World} {v v' : Value} (h : Grew w v w' v') : w.heap.size ≤ w'.heap.size := h.kept.size
theorem Grew.same {w0 w w' : World} {v v' : Value} (h : Grew w v w' v') (h0 : Same w0 w) (hv : ∀ b, v.ownBlock = some b → w0.heap.size ≤ b) : Same w0 w' :=
 h0.next h.kept (fun i hi e => by have := hv i e; omega)
theorem Grew.fresh {w0 w w' : World} {v v' : Value} (h : Grew w v w' v') (h0 : Same w0 w) (hv : ∀ b, v.ownBlock = some b → w0.heap.size ≤ b) : ∀ b, v'.ownBlock = some b → w0.heap.size ≤ b := fun b hb => by
 rcases h.own b hb with h1 | h1
 ·exact hv b h1
 ·have := h0.size
  omega
def LenE (w w' : World) (bs : List Int) (e : Ending) : Prop := ∃ a n c, e = .returned (.slice a n c) ∧ Own 0 2 .i64 w' (.slice a n c) bs ∧ (∀ b, (Value.slice a n c).ownBlock = some b → w.heap.size ≤ b) ∧ Same w w'
theorem LenE.of {w w' : World} {bs : List Int} {e : Ending} (h : LenE w w' bs e) : ∃ a c, e = .returned (.slice a bs.length c) ∧ (∀ b, (Value.slice a bs.length c).ownBlock = some b → w.heap.size ≤ b) ∧ Own 0 2 .i64 w' (.slice a bs.length c) bs ∧ Same w w' := by
 obtain ⟨a, n, c, rfl, ho, hf, hk⟩ := h
 obtain rfl : n = bs.length := by
  rcases ho.form with ⟨h, h'⟩ | ⟨g', cap, h, _⟩
  ·cases h; rw [h']; rfl
  ·cases h; rfl
 exact ⟨a, c, rfl, hf, ho, hk⟩
theorem jaX {te : TypeId} (base : Nat) (va : Value) (bs : List Int) (k0 : Int) (w : World) (hn : bs.length ≤ 1125899906842624) (h0 : 0 ≤ k0) (h1 : k0 ≤ 1125899906842624)
  (ha : Own base te .i64 w va bs) :
  Calls Tryz.prog 42 #[va, V k0] w fun e w' => e = .returned (V (k0 + bs.length)) ∧ Own base te .i64 w' va (XY k0 bs.length) ∧ Kept (fun b => va.ownBlock = some b) w w' := by
 by_cases hz : bs.length = 0
 ·obtain rfl : bs = [] := List.length_eq_zero_iff.1 hz
  obtain ⟨aa, ca, rfl⟩ : ∃ aa ca, va = .slice aa 0 ca := by rcases ha.form with ⟨rfl, _⟩ | ⟨g, cap, rfl, _⟩ <;> exact ⟨_, _, rfl⟩
  have HA : Hid (Own base te .i64 w (.slice aa 0 ca) []) := ha;clear ha hn hz
  go_enter Tryz.func42, Tryz.ntmps42
  go_wp2;refine wp_loop_rounds 1 ?_;rw [rounds_succ];go_wp2;go_ret;exact ⟨by simp, by simpa [XY] using HA.out, kZ0⟩
 ·obtain ⟨g, cap, rfl, hb, aG, _, _⟩ : ∃ g cap, va = Q4 g bs.length cap ∧ base ≤ g ∧ g < w.heap.size ∧ bs.length ≤ cap ∧ cap ≤ maxLen := by
   rcases ha.form with ⟨_, rfl⟩ | h
   ·simp at hz
   ·exact h
  generalize hl : bs.length = len at *;have HL : Hid (bs.length = len) := hl;clear hl
  go_enter Tryz.func42, Tryz.ntmps42
  go_wp2
  go_loopw [1, 5] (fun v i wr => ∃ k : Nat, k ≤ len ∧ i = V k ∧ v = V (k0 + k) ∧ Hid (Own base te .i64 wr (Q4 g len cap) (Yv k0 bs k)) ∧ Hid (Kept (fun b => b = g) w wr)) (fun _ i _ => len - (intOf i).toNat)
  case atStart => exact ⟨0, Nat.zero_le _, rfl, by simp, by rw [jdz]; exact ha, kZ0⟩
  case round =>
   obtain ⟨k, hk, rfl, rfl, HO, HK⟩ := hrel
   by_cases aG : k < len
   ·have hf := HO.out.frozen (by rw [Xx _ _ _ (by have := HL.out; omega)]; exact HL.out.symm) k
    have hc := HO.out.cell (by rw [Xx _ _ _ (by have := HL.out; omega)]; exact HL.out.symm) k aG;clear ha;go_wp2;go_roundw
    case rel =>
     have hl := HL.out;refine ⟨k + 1, by omega, by go_num, by go_num, ?_, HK.out.setCell (.inr rfl) _⟩;have := HO.out.stored (by rw [Xx _ _ _ (by omega)]; omega) k (k0 + k)
     rwa [jdA _ _ _ (by omega)] at this
    case measure => simp [intOf]; omega
   ·go_wp2
    go_ret
    obtain rfl : k = len := by omega
    have hl := HL.out;refine ⟨rfl, ?_, HK.out.mono (fun b _ e => by simp [Value.ownBlock, e])⟩;have := HO.out;rw [← hl, jeU, hl] at this;exact this
theorem jeW {w : World} {x : FR} (hn : x.n = x.bs.length) (h : Own 0 x.e .i64 w x.v x.bs) : OwnL w (x.rows 1) := by
 have h : w.ownsRow 0 x.e 1 x.v x.n (vals .i64 x.bs) := by rw [hn]; exact h
 exact ⟨fun r hr => by rw [List.mem_singleton.1 hr]; exact h, List.pairwise_singleton _ _⟩
theorem Z4 (x : FR) (k0 : Int) (w : World) (h0 : 0 ≤ k0) (h1 : k0 + (x.bs.length : Int) ≤ 1125899906842624) (ha : OwnL w (x.rows 1)) :
  Calls Tryz.prog 42 #[x.v, V k0] w fun e w' => e = .returned (V (k0 + (x.bs.length : Int))) ∧ OwnL w' ((x.marked k0).rows 1) ∧ Kept (Uu (x.rows 1)) w w' := by
 have hl : x.n = x.bs.length := by have := FR.own_len ha; omega
 refine (jaX 0 x.v x.bs k0 w (by omega) h0 (by omega) (FR.own_ints ha)).mono ?_;rintro e w' ⟨rfl, h2, h3⟩;refine ⟨rfl, ?_, h3.mono (fun b _ hb => (Ux _ _).2 hb)⟩;refine jeW (x := x.marked k0) ?_ ?_
 ·simp [FR.marked, jfL, hl]
 ·exact h2
theorem jaY (va : Value) (ps : List StStep) (k0 : Int) (w : World) (h0 : 0 ≤ k0) (h1 : k0 + 2100000 * (ps.length : Int) ≤ 1125899906842624) (hs : ∀ p ∈ ps, p.data.bs.length ≤ 1048576 ∧ p.keep.bs.length ≤ 1048576) (ha : OwnSp w va ps) :
  Calls Tryz.prog 18 #[va, V k0] w fun e w' => ∃ c : Int, e = .returned (V c) ∧ (k0 ≤ c ∧ c ≤ k0 + 2100000 * (ps.length : Int)) ∧ Kept (Xg va ps) w w' := by
 by_cases hz : ps.length = 0
 ·obtain rfl : ps = [] := List.length_eq_zero_iff.1 hz
  obtain ⟨aa, ca, rfl⟩ : ∃ aa ca, va = .slice aa 0 ca := by rcases ha.own.form with ⟨rfl, _⟩ | ⟨g, cap, rfl, _⟩ <;> exact ⟨_, _, rfl⟩
  clear ha hz h1
  go_enter Tryz.func18, Tryz.ntmps18
  go_wp2;refine wp_loop_rounds 1 ?_;rw [rounds_succ];go_wp2;go_ret;exact ⟨k0, rfl, ⟨Int.le_refl _, by simp⟩, kZ0⟩
 ·obtain ⟨g, cap, rfl, hg⟩ : ∃ g cap, va = Q4 g ps.length cap ∧ g < w.heap.size := by
   rcases ha.own.form with ⟨_, rfl⟩ | ⟨g, cap, h, _, h2, _⟩
   ·simp at hz
   ·exact ⟨g, cap, h, h2⟩
  have HG := (show Hid (∀ b, Uu (Uy ps) b → ¬ b = g) from fun b hb e => ha.out b (by rw [e]; rfl) hb);have iJ := hid ha
  have hn : ps.length ≤ 1125899906842624 := by omega
  have H1 := hid h1;have HS := hid hs;clear ha h1 hs;generalize hl : ps.length = len at *;have HL : Hid (ps.length = len) := hl;clear hl
  go_enter Tryz.func18, Tryz.ntmps18
  go_wp2
  go_loopw [1, 5] (fun v i wr => ∃ (k : Nat) (c : Int) (qs : List StStep), k ≤ len ∧ i = V k ∧ v = V c ∧ Hid (k0 ≤ c ∧ c ≤ k0 + 2100000 * (k : Int)) ∧ Hid (qs.length = k) ∧ Hid (OwnR kSp 0 71 5 wr (Q4 g len cap) (qs ++ ps.drop k)) ∧ Hid (OwnL wr (Uy (ps.drop k))) ∧ Hid (Kept (Xg (Q4 g len cap) ps) w wr)) (fun _ i _ => len - (intOf i).toNat)
  case atStart => exact ⟨0, k0, [], Nat.zero_le _, rfl, rfl, ⟨Int.le_refl _, by simp⟩, rfl, by simpa [Hid] using iJ.out.own, by simpa [Hid] using iJ.out.rows, kZ0⟩
  case round =>
   obtain ⟨k, c0, qs, hk, rfl, rfl, HC, bV, HO, HR, HK⟩ := hrel
   by_cases aG : k < len
   case neg =>
    go_wp2;go_ret
    obtain rfl : k = len := by omega
    exact ⟨c0, rfl, HC.out, HK.out⟩
   have aF : k < ps.length := by rw [HL.out]; exact aG
   have ig := List.drop_eq_getElem_cons aF;have bD := HS.out _ (List.getElem_mem aF);obtain ⟨P, hP⟩ : ∃ P, ps[k] = P := ⟨_, rfl⟩;rw [hP] at ig bD
   have gn : 0 ≤ c0 := by have := HC.out; omega
   have PN : c0 + 2100000 ≤ 1125899906842624 := by have := HC.out; have := H1.out; omega
   have qS := hid bD
   have jG := (show Hid (∀ b, Uu (P.data.rows ++ ((P.keep.rows 1) ++ (Uy (ps.drop (k + 1))))) b → Uu (Uy ps) b) from fun b hb => by
    have hx : Uu (Uy (ps.drop k)) b := by
     rw [ig, V6];simp only [StStep.rows, List.append_assoc];exact hb
    obtain ⟨p, hp, hf⟩ := jah.1 hx
    exact jah.2 ⟨p, List.mem_of_mem_drop hp, hf⟩)
   have Ai := (show Hid (OwnL wr (P.data.rows ++ ((P.keep.rows 1) ++ (Uy (ps.drop (k + 1)))))) from by
    have h := HR.out;rw [ig, V6] at h;simp only [StStep.rows, List.append_assoc] at h
    exact h)
   have iH := (show Hid (OwnR kSp 0 71 5 wr (Q4 g len cap) (qs ++ (⟨P.kd, P.tx, P.rid, P.cnt, P.data, P.keep⟩ : StStep) :: ps.drop (k + 1))) from by have h := HO.out; rw [ig] at h; exact h)
   have bH : ∀ e : StStep, Hid (len = (qs ++ e :: ps.drop (k + 1)).length) := fun e => by have hl := HL.out; have h2 := bV.out; simp [Hid]; omega
   clear ig hP HO bD HR;have HR := Ai;clear Ai;have z : wr.cell? ⟨g, k * 6, none⟩ = some (V P.kd) := iH.out.cellMid (bH _).out 0 (by decide) _ (by rw [bV.out]; rfl);have zf := iH.out.frozen (bH _).out (k * 6)
   go_upto_region 5 with fail
   have gY := (show Hid (OwnR kSp 0 71 5 (wr.setCell ⟨g, k * 6, none⟩ (V (c0))) (Q4 g len cap) (qs ++ (⟨(c0), P.tx, P.rid, P.cnt, P.data, P.keep⟩ : StStep) :: ps.drop (k + 1))) from iH.out.set (p' := (⟨(c0), P.tx, P.rid, P.cnt, P.data, P.keep⟩ : StStep)) (bH _).out 0 (V (c0)) (by decide) rfl rfl rfl _ (by rw [bV.out]; rfl));have HK := (show Hid (Kept (Xg (Q4 g len cap) ps) w (wr.setCell ⟨g, k * 6, none⟩ (V (c0)))) from HK.out.setCell (p := ⟨g, k * 6, none⟩) (.inr (.inl rfl)) _);have HR := (show Hid (OwnL (wr.setCell ⟨g, k * 6, none⟩ (V (c0))) (P.data.rows ++ ((P.keep.rows 1) ++ (Uy (ps.drop (k + 1)))))) from OwnL.kept (R := fun b => b = g) HR.out (Kept.setCell (R := fun b => b = g) kZ0 (p := ⟨g, k * 6, none⟩) (.inr rfl) _) (fun b hb => HG.out b (jG.out b hb)));generalize (wr.setCell ⟨g, k * 6, none⟩ (V (c0))) = y0 at gY HK HR ⊢;clear z zf iH;have z : y0.cell? ⟨g, k * 6 + 1, none⟩ = some (V P.tx) := gY.out.cellMid (bH _).out 1 (by decide) _ (by rw [bV.out]; rfl);have zf := gY.out.frozen (bH _).out (k * 6 + 1)
   go_upto_region 7 with fail
   have cY := (show Hid (OwnR kSp 0 71 5 (y0.setCell ⟨g, k * 6 + 1, none⟩ (V (c0 + 1))) (Q4 g len cap) (qs ++ (⟨(c0), (c0 + 1), P.rid, P.cnt, P.data, P.keep⟩ : StStep) :: ps.drop (k + 1))) from gY.out.set (p' := (⟨(c0), (c0 + 1), P.rid, P.cnt, P.data, P.keep⟩ : StStep)) (bH _).out 1 (V (c0 + 1)) (by decide) rfl rfl rfl _ (by rw [bV.out]; rfl));have HK := (show Hid (Kept (Xg (Q4 g len cap) ps) w (y0.setCell ⟨g, k * 6 + 1, none⟩ (V (c0 + 1)))) from HK.out.setCell (p := ⟨g, k * 6 + 1, none⟩) (.inr (.inl rfl)) _);have HR := (show Hid (OwnL (y0.setCell ⟨g, k * 6 + 1, none⟩ (V (c0 + 1))) (P.data.rows ++ ((P.keep.rows 1) ++ (Uy (ps.drop (k + 1)))))) from OwnL.kept (R := fun b => b = g) HR.out (Kept.setCell (R := fun b => b = g) kZ0 (p := ⟨g, k * 6 + 1, none⟩) (.inr rfl) _) (fun b hb => HG.out b (jG.out b hb)));generalize (y0.setCell ⟨g, k * 6 + 1, none⟩ (V (c0 + 1))) = y1 at cY HK HR ⊢;clear z zf gY;have z : y1.cell? ⟨g, k * 6 + 2, none⟩ = some (V P.rid) := cY.out.cellMid (bH _).out 2 (by decide) _ (by rw [bV.out]; rfl);have zf := cY.out.frozen (bH _).out (k * 6 + 2)
   go_upto_region 9 with fail
   have dV := (show Hid (OwnR kSp 0 71 5 (y1.setCell ⟨g, k * 6 + 2, none⟩ (V (c0 + 1 + 1))) (Q4 g len cap) (qs ++ (⟨(c0), (c0 + 1), (c0 + 1 + 1), P.cnt, P.data, P.keep⟩ : StStep) :: ps.drop (k + 1))) from cY.out.set (p' := (⟨(c0), (c0 + 1), (c0 + 1 + 1), P.cnt, P.data, P.keep⟩ : StStep)) (bH _).out 2 (V (c0 + 1 + 1)) (by decide) rfl rfl rfl _ (by rw [bV.out]; rfl));have HK := (show Hid (Kept (Xg (Q4 g len cap) ps) w (y1.setCell ⟨g, k * 6 + 2, none⟩ (V (c0 + 1 + 1)))) from HK.out.setCell (p := ⟨g, k * 6 + 2, none⟩) (.inr (.inl rfl)) _);have HR := (show Hid (OwnL (y1.setCell ⟨g, k * 6 + 2, none⟩ (V (c0 + 1 + 1))) (P.data.rows ++ ((P.keep.rows 1) ++ (Uy (ps.drop (k + 1)))))) from OwnL.kept (R := fun b => b = g) HR.out (Kept.setCell (R := fun b => b = g) kZ0 (p := ⟨g, k * 6 + 2, none⟩) (.inr rfl) _) (fun b hb => HG.out b (jG.out b hb)));generalize (y1.setCell ⟨g, k * 6 + 2, none⟩ (V (c0 + 1 + 1))) = y2 at dV HK HR ⊢;clear z zf cY;have z : y2.cell? ⟨g, k * 6 + 3, none⟩ = some (V P.cnt) := dV.out.cellMid (bH _).out 3 (by decide) _ (by rw [bV.out]; rfl);have zf := dV.out.frozen (bH _).out (k * 6 + 3)
   go_upto_region 11 with fail
   have fI := (show Hid (OwnR kSp 0 71 5 (y2.setCell ⟨g, k * 6 + 3, none⟩ (V (c0 + 1 + 1 + 1))) (Q4 g len cap) (qs ++ (⟨(c0), (c0 + 1), (c0 + 1 + 1), (c0 + 1 + 1 + 1), P.data, P.keep⟩ : StStep) :: ps.drop (k + 1))) from dV.out.set (p' := (⟨(c0), (c0 + 1), (c0 + 1 + 1), (c0 + 1 + 1 + 1), P.data, P.keep⟩ : StStep)) (bH _).out 3 (V (c0 + 1 + 1 + 1)) (by decide) rfl rfl rfl _ (by rw [bV.out]; rfl));have HK := (show Hid (Kept (Xg (Q4 g len cap) ps) w (y2.setCell ⟨g, k * 6 + 3, none⟩ (V (c0 + 1 + 1 + 1)))) from HK.out.setCell (p := ⟨g, k * 6 + 3, none⟩) (.inr (.inl rfl)) _);have HR := (show Hid (OwnL (y2.setCell ⟨g, k * 6 + 3, none⟩ (V (c0 + 1 + 1 + 1))) (P.data.rows ++ ((P.keep.rows 1) ++ (Uy (ps.drop (k + 1)))))) from OwnL.kept (R := fun b => b = g) HR.out (Kept.setCell (R := fun b => b = g) kZ0 (p := ⟨g, k * 6 + 3, none⟩) (.inr rfl) _) (fun b hb => HG.out b (jG.out b hb)));generalize (y2.setCell ⟨g, k * 6 + 3, none⟩ (V (c0 + 1 + 1 + 1))) = y3 at fI HK HR ⊢;clear z zf dV;have z : y3.cell? ⟨g, k * 6 + 4, none⟩ = some P.data.v := fI.out.cellMid (bH _).out 4 (by decide) _ (by rw [bV.out]; rfl);have fo := qS.out.1
   go_wp2_with fail
   refine (V5 0 P.data.v P.data.bs (c0 + 1 + 1 + 1 + 1) _ (by omega) (by omega) (by omega) (OwnL.of_one HR.out.left)).mono ?_;rintro e x1 ⟨rfl, _, hk⟩;have hk : Kept (Uu P.data.rows) _ x1 := hk.mono (fun b _ h => (WB _ _ _ _ _).2 h);have dI := hid (fI.out.kept hk (fun b hb h => HG.out b (jG.out b ((Ud _ _ _).2 (.inl h))) (by have h2 : g = b := (by simpa [Value.ownBlock] using XZ hb); exact h2.symm)));have HK := hid (HK.out.next hk (fun b _ h => .inr (jG.out b ((Ud _ _ _).2 (.inl h)))));have HR := (show Hid (OwnL x1 ((P.keep.rows 1) ++ (Uy (ps.drop (k + 1))))) from HR.out.right.kept hk (fun b hb h => HR.out.cut b h hb));have qK := (show Hid (∀ b, Uu ((P.keep.rows 1) ++ (Uy (ps.drop (k + 1)))) b → Uu (Uy ps) b) from fun b hb => jG.out b ((Ud _ _ _).2 (.inr hb)));obtain ⟨n1, eX⟩ : ∃ n : Nat, P.data.bs.length = n := ⟨_, rfl⟩;rw [eX] at fo ⊢;have z2 : x1.cell? ⟨g, k * 6 + 5, none⟩ = some P.keep.v := dI.out.cellMid (bH _).out 5 (by decide) _ (by rw [bV.out]; rfl);have Ct := qS.out.2;clear hk z fI eX
   go_wp2_with fail
   refine (Z4 P.keep (c0 + 1 + 1 + 1 + 1 + (n1 : Int)) _ (by omega) (by omega) HR.out.left).mono ?_;rintro e x2 ⟨rfl, _, hk⟩;have iK := hid (dI.out.kept hk (fun b hb h => HG.out b (qK.out b ((Ud _ _ _).2 (.inl h))) (by have h2 : g = b := (by simpa [Value.ownBlock] using XZ hb); exact h2.symm)));have HK := hid (HK.out.next hk (fun b _ h => .inr (qK.out b ((Ud _ _ _).2 (.inl h)))));have HR := (show Hid (OwnL x2 (Uy (ps.drop (k + 1)))) from HR.out.right.kept hk (fun b hb h => HR.out.cut b h hb));obtain ⟨n2, ly⟩ : ∃ n : Nat, P.keep.bs.length = n := ⟨_, rfl⟩;rw [ly] at Ct ⊢
   have Dk := (show Hid (k0 ≤ c0 + 1 + 1 + 1 + 1 + (n1 : Int) + (n2 : Int) ∧ c0 + 1 + 1 + 1 + 1 + (n1 : Int) + (n2 : Int) ≤ k0 + 2100000 * ((k + 1 : Nat) : Int)) from by
    have := HC.out
    show k0 ≤ _ ∧ _ ≤ _
    omega)
   clear hk z2 dI ly;go_wp2;go_roundw
   case rel => exact ⟨k + 1, _, qs ++ [(⟨(c0), (c0 + 1), (c0 + 1 + 1), (c0 + 1 + 1 + 1), P.data, P.keep⟩ : StStep)], by omega, by go_num, rfl, Dk, by simp [Hid, bV.out], by simpa [Hid] using iK.out, HR, HK⟩
   case measure => simp [intOf]; omega
theorem jaZ (v : Value) (ps : List EAn) (left : Int) (w : World) (h0 : 0 ≤ left) (h1 : left ≤ 1048576) (hp : RdAn w v ps) :
  Calls Tryz.prog 6 #[v, V left] w fun e w' => ∃ r : Int, e = .returned (V r) ∧ (r = -1 ∨ (r = left - ps.length - UU ps ∧ 0 ≤ r)) ∧ Same w w' := by
 have hn := hp.row.max;unfold maxLen at hn
 rcases hp.row.row with ⟨rfl, a, c, rfl⟩ | ⟨b, off, c, rfl, hc⟩
 ·clear hp hn
  go_enter Tryz.func6, Tryz.ntmps6
  go_wp2;refine wp_loop_rounds 1 ?_;rw [rounds_succ];go_wp2;go_ret;exact ⟨_, rfl, .inr ⟨by simp [UU], by omega⟩, kZ0⟩
 ·have HP := hid hp
  have HC : Hid (∀ j i, (h : j < ps.length) → i < 6 → w.cell? ⟨b, off + (j * 6 + i), none⟩ = (kAn.cells ps[j])[i]?) := hc;clear hp hc;generalize hl : ps.length = len at hn HP ⊢;have HL : Hid (ps.length = len) := hl;clear hl
  by_cases h : left < len
  ·go_enter Tryz.func6, Tryz.ntmps6
   go_wp2;go_ret;exact ⟨_, rfl, .inl rfl, kZ0⟩
  ·go_enter Tryz.func6, Tryz.ntmps6
   go_wp2
   go_loopw [1, 5] (fun u i wr => ∃ (k : Nat) (r : Int), k ≤ len ∧ i = V k ∧ u = V r ∧ 0 ≤ r ∧ r ≤ left ∧ Hid (r = left - len - UU (ps.take k)) ∧ Hid (Same w wr)) (fun _ i _ => len - (intOf i).toNat)
   case atStart => exact ⟨0, left - len, Nat.zero_le _, rfl, rfl, by omega, by omega, by simp [UU, Hid], kZ0⟩
   case round =>
    obtain ⟨k, r, hk, rfl, rfl, mA, lG, HR, HK⟩ := hrel
    by_cases aG : k < len
    ·have aF : k < ps.length := by rw [HL.out]; exact aG
     have eo := hid (jco ps k aF);have ch := And.intro ((show Rd .u8 w ps[k].dv ps[k].db from HP.out.row.data _ (List.getElem_mem aF)).same HK.out) ((HP.out.recs _ (List.getElem_mem aF)).same HK.out);obtain ⟨P, hP⟩ : ∃ P, ps[k] = P := ⟨_, rfl⟩;rw [hP] at eo ch;have q0 : wr.cell? ⟨b, off + k * 6, none⟩ = some (V P.cd) := HK.out.cellOf (p := ⟨b, off + k * 6, none⟩) (by have h := HC.out k 0 aF (by decide); rw [hP] at h; exact h) id;have q1 : wr.cell? ⟨b, off + k * 6 + 1, none⟩ = some (V P.tx) := HK.out.cellOf (p := ⟨b, off + k * 6 + 1, none⟩) (by have h := HC.out k 1 aF (by decide); rw [hP, ← Nat.add_assoc] at h; exact h) id;have q2 : wr.cell? ⟨b, off + k * 6 + 2, none⟩ = some (V P.rid) := HK.out.cellOf (p := ⟨b, off + k * 6 + 2, none⟩) (by have h := HC.out k 2 aF (by decide); rw [hP, ← Nat.add_assoc] at h; exact h) id;have q3 : wr.cell? ⟨b, off + k * 6 + 3, none⟩ = some (P.dv) := HK.out.cellOf (p := ⟨b, off + k * 6 + 3, none⟩) (by have h := HC.out k 3 aF (by decide); rw [hP, ← Nat.add_assoc] at h; exact h) id;have q4 : wr.cell? ⟨b, off + k * 6 + 4, none⟩ = some (P.rv) := HK.out.cellOf (p := ⟨b, off + k * 6 + 4, none⟩) (by have h := HC.out k 4 aF (by decide); rw [hP, ← Nat.add_assoc] at h; exact h) id;have q5 : wr.cell? ⟨b, off + k * 6 + 5, none⟩ = some (V P.us) := HK.out.cellOf (p := ⟨b, off + k * 6 + 5, none⟩) (by have h := HC.out k 5 aF (by decide); rw [hP, ← Nat.add_assoc] at h; exact h) id;have eT := hid ch;clear ch hP
     go_wp2_with fail
     refine (jbI P r _ mA (by omega) eT.out.1 eT.out.2).mono ?_;rintro e w1 ⟨r1, rfl, dZ, af⟩;have ao : Hid (Same w w1) := HK.out.trans af;clear q0 q1 q2 q3 q4 q5 af
     rcases dZ with rfl | ⟨dZ, BD⟩
     ·go_wp2
      go_ret;exact ⟨_, rfl, .inl rfl, ao.out⟩
     ·have Dh : r1 ≤ left := by have := P.szs_le; omega
      have rG : Hid (r1 = r - P.szs) := dZ;clear dZ;go_wp2;go_roundw
      case rel => exact ⟨k + 1, r1, by omega, by go_num, rfl, BD, Dh, by have h1 := rG.out; have h2 := HR.out; have h3 := eo.out; unfold Hid; omega, ao⟩
      case measure => simp [intOf]; omega
    ·go_wp2
     go_ret
     obtain rfl : k = len := by omega
     have h1 := HR.out;have h2 := HL.out;rw [← h2, List.take_length] at h1;exact ⟨r, rfl, .inr ⟨by omega, mA⟩, HK.out⟩
theorem Tryz.infoAn : (Tryz.prog.info? 73).map (fun i => (i.zero, i.size, i.bytes)) = some (some (.agg #[V 0, V 0, V 0, V0, V0, V 0]), 6, 80) := by kernel_rfl
theorem ja0 (va vb : Value) (ps qs : List EAn) (w : World) (hn : ps.length ≤ 1125899906842624) (hs : Uv ps = Uv qs) (gR : ∀ p ∈ ps, p.szs ≤ 1073741824)
  (ha : OwnAn w va ps) (hb : OwnAn w vb qs) :
  Calls Tryz.prog 16 #[va, vb] w fun e w' => e = .returned (.bool true) ∧ Same w w' := by
 have az : qs.length = ps.length := by rw [← Uz, ← Uz, hs]
 by_cases hz : ps.length = 0
 ·obtain rfl : ps = [] := List.length_eq_zero_iff.1 hz
  obtain rfl : qs = [] := List.length_eq_zero_iff.1 az
  obtain ⟨aa, ca, rfl⟩ : ∃ aa ca, va = .slice aa 0 ca := by rcases ha.row.form with ⟨rfl, _⟩ | ⟨g, cap, rfl, _⟩ <;> exact ⟨_, _, rfl⟩
  obtain ⟨ab, cb, rfl⟩ : ∃ aa ca, vb = .slice aa 0 ca := by rcases hb.row.form with ⟨rfl, _⟩ | ⟨g, cap, rfl, _⟩ <;> exact ⟨_, _, rfl⟩
  clear ha hb hn hz hs
  go_enter Tryz.func16, Tryz.ntmps16
  go_wp2;refine wp_loop_rounds 1 ?_;rw [rounds_succ];go_wp2;go_ret;exact ⟨rfl, kZ0⟩
 ·obtain ⟨ga, ca, rfl⟩ : ∃ g cap, va = Q4 g ps.length cap := by
   rcases ha.row.form with ⟨_, h⟩ | ⟨g, cap, h, _⟩
   ·simp [h] at hz
   ·exact ⟨g, cap, h⟩
  obtain ⟨gb, cb, rfl⟩ : ∃ g cap, vb = Q4 g ps.length cap := by
   rcases hb.row.form with ⟨_, h⟩ | ⟨g, cap, h, _⟩
   ·simp [h] at az; omega
   ·exact ⟨g, cap, by rw [h, az]⟩
  have HA := hid ha;have HB := hid hb;have HQ : Hid (qs.length = ps.length) := az;have HS : Hid (Uv ps = Uv qs) := hs;have HM : Hid (∀ p ∈ ps, p.szs ≤ 1073741824) := gR;clear ha hb hs az gR;generalize hl : ps.length = len at hn hz HA HB ⊢;have HL : Hid (ps.length = len) := hl;clear hl
  go_enter Tryz.func16, Tryz.ntmps16
  go_wp2
  go_loopw [5] (fun i wr => ∃ (k : Nat), k ≤ len ∧ i = V k ∧ Hid (Same w wr)) (fun i _ => len - (intOf i).toNat)
  case atStart => exact ⟨0, Nat.zero_le _, rfl, kZ0⟩
  case round =>
   obtain ⟨k, hk, rfl, HK⟩ := hrel
   by_cases aG : k < len
   ·have aF : k < ps.length := by rw [HL.out]; exact aG
    have cV : k < qs.length := by rw [HQ.out]; exact aF
    have ef := (HA.out.same HK.out).row;have d8 := (HB.out.same HK.out).row;have ek := jfN HS.out k aF cV;have s3 := HM.out _ (List.getElem_mem aF);have fu := And.intro (show Own 0 5 .u8 wr ps[k].dv ps[k].db from ef.data _ (List.getElem_mem aF)) ((HA.out.same HK.out).recs _ (List.getElem_mem aF));have gG := And.intro (show Own 0 5 .u8 wr qs[k].dv qs[k].db from d8.data _ (List.getElem_mem cV)) ((HB.out.same HK.out).recs _ (List.getElem_mem cV));obtain ⟨P, hP⟩ : ∃ P, ps[k] = P := ⟨_, rfl⟩;obtain ⟨Q, hQ⟩ : ∃ Q, qs[k] = Q := ⟨_, rfl⟩;rw [hP] at ek s3 fu;rw [hQ] at ek gG
    have l7 : wr.cell? ⟨ga, k * 6, none⟩ = some (V P.cd) := by have h := ef.cell HL.out.symm k 0 aF (by decide); rw [hP] at h; exact h
    have l4 : wr.cell? ⟨ga, k * 6 + 1, none⟩ = some (V P.tx) := by have h := ef.cell HL.out.symm k 1 aF (by decide); rw [hP] at h; exact h
    have rM : wr.cell? ⟨ga, k * 6 + 2, none⟩ = some (V P.rid) := by have h := ef.cell HL.out.symm k 2 aF (by decide); rw [hP] at h; exact h
    have yU : wr.cell? ⟨ga, k * 6 + 3, none⟩ = some (P.dv) := by have h := ef.cell HL.out.symm k 3 aF (by decide); rw [hP] at h; exact h
    have zt : wr.cell? ⟨ga, k * 6 + 4, none⟩ = some (P.rv) := by have h := ef.cell HL.out.symm k 4 aF (by decide); rw [hP] at h; exact h
    have ym : wr.cell? ⟨ga, k * 6 + 5, none⟩ = some (V P.us) := by have h := ef.cell HL.out.symm k 5 aF (by decide); rw [hP] at h; exact h
    have bR : wr.cell? ⟨gb, k * 6, none⟩ = some (V Q.cd) := by have h := d8.cell (by rw [HQ.out, HL.out]) k 0 cV (by decide); rw [hQ] at h; exact h
    have cW : wr.cell? ⟨gb, k * 6 + 1, none⟩ = some (V Q.tx) := by have h := d8.cell (by rw [HQ.out, HL.out]) k 1 cV (by decide); rw [hQ] at h; exact h
    have aV : wr.cell? ⟨gb, k * 6 + 2, none⟩ = some (V Q.rid) := by have h := d8.cell (by rw [HQ.out, HL.out]) k 2 cV (by decide); rw [hQ] at h; exact h
    have bP : wr.cell? ⟨gb, k * 6 + 3, none⟩ = some (Q.dv) := by have h := d8.cell (by rw [HQ.out, HL.out]) k 3 cV (by decide); rw [hQ] at h; exact h
    have eE : wr.cell? ⟨gb, k * 6 + 4, none⟩ = some (Q.rv) := by have h := d8.cell (by rw [HQ.out, HL.out]) k 4 cV (by decide); rw [hQ] at h; exact h
    have gI : wr.cell? ⟨gb, k * 6 + 5, none⟩ = some (V Q.us) := by have h := d8.cell (by rw [HQ.out, HL.out]) k 5 cV (by decide); rw [hQ] at h; exact h
    have HD := hid ek;have qJ := hid s3;have mM := hid fu;have nm := hid gG;clear ef d8 ek fu gG s3 hP hQ
    go_wp2_with fail
    let Y1 : World → Prop := fun wx : World => (wx.cell? ⟨ga, k * 6, none⟩ = some (V P.cd) ∧ wx.cell? ⟨ga, k * 6 + 1, none⟩ = some (V P.tx) ∧ wx.cell? ⟨ga, k * 6 + 2, none⟩ = some (V P.rid) ∧ wx.cell? ⟨ga, k * 6 + 3, none⟩ = some (P.dv) ∧ wx.cell? ⟨ga, k * 6 + 4, none⟩ = some (P.rv) ∧ wx.cell? ⟨ga, k * 6 + 5, none⟩ = some (V P.us)) ∧ (wx.cell? ⟨gb, k * 6, none⟩ = some (V Q.cd) ∧ wx.cell? ⟨gb, k * 6 + 1, none⟩ = some (V Q.tx) ∧ wx.cell? ⟨gb, k * 6 + 2, none⟩ = some (V Q.rid) ∧ wx.cell? ⟨gb, k * 6 + 3, none⟩ = some (Q.dv) ∧ wx.cell? ⟨gb, k * 6 + 4, none⟩ = some (Q.rv) ∧ wx.cell? ⟨gb, k * 6 + 5, none⟩ = some (V Q.us))
    have hS : Y1 wr.drew := ⟨⟨l7, l4, rM, yU, zt, ym⟩, ⟨bR, cW, aV, bP, eE, gI⟩⟩;refine TT Y1 99 10 rfl (by kernel_rfl) ?_;refine tk 0 17 hS ?_;refine tk 1 18 hS ?_;refine tkV 2 19 (.pointer (some ⟨ga, k * 6, none⟩)) hS ?_;refine tk 3 20 hS ?_;refine tk 4 21 hS ?_;refine tk 5 22 hS ?_;refine tkV 6 23 (.pointer (some ⟨gb, k * 6, none⟩)) hS ?_;refine tk 7 24 hS ?_;refine o1Q 8 (fun K hK => ?_);go_simp;refine (jbJ P Q _ qJ.out HD.out (mM.out.1.same kZ0.drew) (nm.out.1.same kZ0.drew) (mM.out.2.same kZ0.drew) (nm.out.2.same kZ0.drew)).mono ?_;rintro e w1 ⟨rfl, af⟩;have ao : Hid (Same w w1) := HK.out.drew.trans af;have aZ : Hid (Same wr w1) := kZ0.drew.trans af;refine hK.out _ _ (fun _ => ⟨⟨(aZ.out.cellOf l7 id), (aZ.out.cellOf l4 id), (aZ.out.cellOf rM id), (aZ.out.cellOf yU id), (aZ.out.cellOf zt id), (aZ.out.cellOf ym id)⟩, ⟨(aZ.out.cellOf bR id), (aZ.out.cellOf cW id), (aZ.out.cellOf aV id), (aZ.out.cellOf bP id), (aZ.out.cellOf eE id), (aZ.out.cellOf gI id)⟩⟩) ?_;clear hK K
    try simp only [Act.put, sA, s0, sS]
    refine o1Q 9 (fun K hK => ?_);go_simp;refine hK.out _ _ (fun h => ⟨⟨(aZ.out.cellOf l7 id), (aZ.out.cellOf l4 id), (aZ.out.cellOf rM id), (aZ.out.cellOf yU id), (aZ.out.cellOf zt id), (aZ.out.cellOf ym id)⟩, ⟨(aZ.out.cellOf bR id), (aZ.out.cellOf cW id), (aZ.out.cellOf aV id), (aZ.out.cellOf bP id), (aZ.out.cellOf eE id), (aZ.out.cellOf gI id)⟩⟩) ?_;clear hK K af
    try simp only [Act.put, sA, s0, sS]
    refine TS (by kernel_rfl) ?_;go_wp2;go_roundw
    case rel => exact ⟨k + 1, by omega, by go_num, ao⟩
    case measure => simp [intOf]; omega
   ·go_wp2
    go_ret;exact ⟨rfl, HK.out⟩
def Y8 (x : EAn) (b : Nat) : Prop := x.dv.ownBlock = some b ∨ Uc kHeapRecord x.rv x.rs b
structure AnEach (qs : List EAn) : Prop where
 one : ∀ x ∈ qs, ∀ b, x.dv.ownBlock = some b → ¬ Uc kHeapRecord x.rv x.rs b
 two : qs.Pairwise (fun x y => ∀ b, Y8 x b → ¬ Y8 y b)
theorem AnEach.nil : AnEach [] := ⟨fun x hx => by simp at hx, List.Pairwise.nil⟩
theorem AnEach.snoc {qs : List EAn} {y : EAn} (h : AnEach qs) (h1 : ∀ b, y.dv.ownBlock = some b → ¬ Uc kHeapRecord y.rv y.rs b) (h2 : ∀ x ∈ qs, ∀ b, Y8 x b → ¬ Y8 y b) : AnEach (qs ++ [y]) :=
 ⟨fun x hx => by
  rcases List.mem_append.1 hx with hx | hx
  ·exact h.one x hx
  ·rw [List.mem_singleton.1 hx]; exact h1, List.pairwise_append.2 ⟨h.two, List.pairwise_singleton _ _, fun a ha b hb c hc => by rw [List.mem_singleton.1 hb]; exact h2 a ha c hc⟩⟩
theorem ja1 (x : EAn) (w : World) (hn : x.szs ≤ 1073741824) (hd : Rd .u8 w x.dv x.db) (hr : RdR kHeapRecord w x.rv x.rs) :
  Calls Tryz.prog 31 #[.agg #[V x.cd, V x.tx, V x.rid, x.dv, x.rv, V x.us]] w fun e w' => ∃ y : EAn, e = .returned (.agg #[V y.cd, V y.tx, V y.rid, y.dv, y.rv, V y.us]) ∧ y.dat = x.dat ∧
   Own 0 5 .u8 w' y.dv y.db ∧ OwnR kHeapRecord 0 79 5 w' y.rv y.rs ∧ (∀ b, y.dv.ownBlock = some b ∨ Uc kHeapRecord y.rv y.rs b → w.heap.size ≤ b) ∧ Same w w' ∧ (∀ b, y.dv.ownBlock = some b → ¬ Uc kHeapRecord y.rv y.rs b) := by
 obtain ⟨cd, tx, rid, dv, db, rv, rs, us⟩ := x;simp only [EAn.szs] at hn;dsimp only at hd hr ⊢;obtain ⟨a1, c1, rfl⟩ := hd.form;obtain ⟨a2, c2, rfl⟩ := hr.form;have Jy := hid hd;have Jt := hid hr;clear hd hr;have dx : Same w (((w.alloc (.cells #[V cd, V tx, V rid, .slice a1 db.length c1, .slice a2 rs.length c2, V us] 61)).alloc (.cells #[V 0, V 0, V 0, V0, V0, V 0] 73)).alloc (.cells #[V cd, V tx, V rid, V0, V0, V 0] 73)) := ((kZ0.alloc _).alloc _).alloc _;have b0 : Blk (((w.alloc (.cells #[V cd, V tx, V rid, .slice a1 db.length c1, .slice a2 rs.length c2, V us] 61)).alloc (.cells #[V 0, V 0, V 0, V0, V0, V 0] 73)).alloc (.cells #[V cd, V tx, V rid, V0, V0, V 0] 73)) w.heap.size 61 [V cd, V tx, V rid, .slice a1 db.length c1, .slice a2 rs.length c2, V us] := ((Blk.newL w [V cd, V tx, V rid, .slice a1 db.length c1, .slice a2 rs.length c2, V us] 61).alloc _).alloc _;have b1 : Blk (((w.alloc (.cells #[V cd, V tx, V rid, .slice a1 db.length c1, .slice a2 rs.length c2, V us] 61)).alloc (.cells #[V 0, V 0, V 0, V0, V0, V 0] 73)).alloc (.cells #[V cd, V tx, V rid, V0, V0, V 0] 73)) (w.heap.size + 1) 73 [V 0, V 0, V 0, V0, V0, V 0] := (Blk.newB w [V cd, V tx, V rid, .slice a1 db.length c1, .slice a2 rs.length c2, V us] 61 [V 0, V 0, V 0, V0, V0, V 0] 73).alloc _
 have b2 : Blk (((w.alloc (.cells #[V cd, V tx, V rid, .slice a1 db.length c1, .slice a2 rs.length c2, V us] 61)).alloc (.cells #[V 0, V 0, V 0, V0, V0, V 0] 73)).alloc (.cells #[V cd, V tx, V rid, V0, V0, V 0] 73)) (w.heap.size + 1 + 1) 73 [V cd, V tx, V rid, V0, V0, V 0] := by have h := Blk.newL ((w.alloc (.cells #[V cd, V tx, V rid, .slice a1 db.length c1, .slice a2 rs.length c2, V us] 61)).alloc (.cells #[V 0, V 0, V 0, V0, V0, V 0] 73)) [V cd, V tx, V rid, V0, V0, V 0] 73; rw [World.size_alloc, World.size_alloc] at h; exact h
 have bD : (((w.alloc (.cells #[V cd, V tx, V rid, .slice a1 db.length c1, .slice a2 rs.length c2, V us] 61)).alloc (.cells #[V 0, V 0, V 0, V0, V0, V 0] 73)).alloc (.cells #[V cd, V tx, V rid, V0, V0, V 0] 73)).heap.size = w.heap.size + 1 + 1 + 1 := by simp only [World.size_alloc]
 go_enter Tryz.func31, Tryz.ntmps31
 go_wp2_with fail
 refine (XV _ db _ (by omega) (Jy.out.same dx)).mono ?_;rintro e w1 ⟨g0, rfl, hg, ho, hk⟩
 have Px : w.heap.size + 1 + 1 < g0 := by rw [bD] at hg; omega
 have af : Same w w1 := dx.trans hk;replace b0 := b0.same hk;replace b1 := b1.same hk;replace b2 := b2.same hk
 replace bD : w.heap.size + 1 + 1 + 1 ≤ w1.heap.size := by have := hk.size; omega
 have AH : Own 0 5 .u8 (w1.setCell ⟨w.heap.size + 1 + 1, 3, none⟩ (Q4 g0 db.length db.length)) (Q4 g0 db.length db.length) db := ho.kept (R := fun b => b = w.heap.size + 1 + 1) (Kept.setCell (R := fun b => b = w.heap.size + 1 + 1) kZ0 (.inr rfl) _) (fun b hb e => by have h2 : g0 = b := Option.some.inj hb; omega);clear hk hg ho;have pY := b0.cell 0; have qd := b1.cell 0; have wZ := b1.frozen 0; have ou := b2.cell 0; have wJ := b2.frozen 0;have oT := b0.cell 1; have nA := b1.cell 1; have vo := b1.frozen 1; have nH := b2.cell 1; have vl := b2.frozen 1;have pa := b0.cell 2; have pq := b1.cell 2; have sQ := b1.frozen 2; have qv := b2.cell 2; have wU := b2.frozen 2;have pH := b0.cell 3; have qj := b1.cell 3; have vE := b1.frozen 3; have nE := b2.cell 3; have tX := b2.frozen 3;have oZ := b0.cell 4; have oC := b1.cell 4; have xD := b1.frozen 4; have oh := b2.cell 4; have s7 := b2.frozen 4;have nx := b0.cell 5; have pO := b1.cell 5; have ud := b1.frozen 5; have qk := b2.cell 5; have sY := b2.frozen 5;dsimp only [List.getElem?_cons_zero, List.getElem?_cons_succ] at pY oT pa pH oZ nx qd nA pq qj oC pO ou nH qv nE oh qk;have ae : Same w (w1.setCell ⟨w.heap.size + 1 + 1, 3, none⟩ (Q4 g0 db.length db.length)) := af.setCell (.inl (by simp only []; omega)) _;replace b0 : Blk (w1.setCell ⟨w.heap.size + 1 + 1, 3, none⟩ (Q4 g0 db.length db.length)) w.heap.size 61 [V cd, V tx, V rid, .slice a1 db.length c1, .slice a2 rs.length c2, V us] := b0.other (by simp only []; omega) _;replace b1 : Blk (w1.setCell ⟨w.heap.size + 1 + 1, 3, none⟩ (Q4 g0 db.length db.length)) (w.heap.size + 1) 73 [V 0, V 0, V 0, V0, V0, V 0] := b1.other (by simp only []; omega) _;replace b2 : Blk (w1.setCell ⟨w.heap.size + 1 + 1, 3, none⟩ (Q4 g0 db.length db.length)) (w.heap.size + 1 + 1) 73 [V cd, V tx, V rid, Q4 g0 db.length db.length, V0, V 0] := b2.stored 3 _
 replace bD : w.heap.size + 1 + 1 + 1 ≤ (w1.setCell ⟨w.heap.size + 1 + 1, 3, none⟩ (Q4 g0 db.length db.length)).heap.size := by rw [World.size_setCell]; exact bD
 go_wp2_with fail
 refine (WX _ rs _ (by omega) (fun p hp => by have h1 := UW rs p hp; omega) (Jt.out.same ae)).mono ?_;rintro e w2 ⟨g1, qs, rfl, LC, Kz, sV, hk⟩;have ar : Same w w2 := ae.trans hk;have j7 := AH.same hk;replace b0 := b0.same hk;replace b1 := b1.same hk;replace b2 := b2.same hk
 have Bw : ∀ b, Uc kHeapRecord (Q4 g1 rs.length rs.length) qs b → w.heap.size + 1 + 1 < b := fun b hb => by have := Kz b hb; omega
 have qR := (show Hid (∀ b, (Value.slice (some ⟨g0, 0, none⟩) db.length db.length).ownBlock = some b → ¬ Uc kHeapRecord (Q4 g1 rs.length rs.length) qs b) from fun b hb hf => by
  have h1 := Kz b hf;have h2 : g0 = b := Option.some.inj hb
  rcases AH.form with ⟨h3, _⟩ | ⟨g, cap, h3, _, h4, _⟩
  ·cases h3
  ·injection h3 with h3 _ _
   injection h3 with h3
   injection h3 with h3 _ _
   omega)
 clear hk Kz AH ae af dx;clear pY oT pa pH oZ nx qd nA pq qj oC pO wZ vo sQ vE xD ud ou nH qv nE oh qk wJ vl wU tX s7 sY;have xy := b0.cell 0; have lM := b1.cell 0; have DU := b1.frozen 0; have wD := b2.cell 0; have E6 := b2.frozen 0;have xm := b0.cell 1; have lD := b1.cell 1; have Fg := b1.frozen 1; have vd := b2.cell 1; have By := b2.frozen 1;have vH := b0.cell 2; have lx := b1.cell 2; have Fb := b1.frozen 2; have sN := b2.cell 2; have Bz := b2.frozen 2;have vf := b0.cell 3; have lB := b1.cell 3; have DT := b1.frozen 3; have wH := b2.cell 3; have Bh := b2.frozen 3;have xQ := b0.cell 4; have lK := b1.cell 4; have Dx := b1.frozen 4; have uf := b2.cell 4; have C0 := b2.frozen 4;have xK := b0.cell 5; have lS := b1.cell 5; have Er := b1.frozen 5; have tA := b2.cell 5; have Dp := b2.frozen 5;dsimp only [List.getElem?_cons_zero, List.getElem?_cons_succ] at xy xm vH vf xQ xK lM lD lx lB lK lS wD vd sN wH uf tA;have KD := hid ar;have iH := hid j7;have gY := hid sV;have oY := hid Bw;have rQ := hid LC;clear b0 b1 b2 ar j7 sV Bw LC;go_wp2;refine bodyPost_ret (v := .agg #[V cd, V tx, V rid, Q4 g0 db.length db.length, Q4 g1 rs.length rs.length, V us]) (by simp [results, Tryz.results31, go_sem, lM, lD, lx, lB, lK, lS]) rfl ⟨⟨cd, tx, rid, Q4 g0 db.length db.length, db, Q4 g1 rs.length rs.length, qs, us⟩, rfl, ?_, ?_, ?_, ?_, ?_, qR.out⟩
 ·simp only [EAn.dat, rQ.out]
 ·refine iH.out.kept (R := fun b => b = w.heap.size + 1 ∨ b = w.heap.size + 1 + 1) ?_ (fun b hb e => by have h2 : g0 = b := Option.some.inj hb; omega)
  iterate 6 refine Kept.setCell ?_ (.inr (.inl rfl)) _
  iterate 2 refine Kept.setCell ?_ (.inr (.inr rfl)) _
  exact kZ0
 ·refine gY.out.kept (R := fun b => b = w.heap.size + 1 ∨ b = w.heap.size + 1 + 1) ?_ (fun b hb e => by have := oY.out b hb; omega)
  iterate 6 refine Kept.setCell ?_ (.inr (.inl rfl)) _
  iterate 2 refine Kept.setCell ?_ (.inr (.inr rfl)) _
  exact kZ0
 ·intro b hb
  rcases hb with hb | hb
  ·have h2 : g0 = b := Option.some.inj hb
   omega
  ·have := oY.out b hb
   omega
 ·iterate 8 refine Kept.setCell ?_ (.inl (by simp only []; omega)) _
  exact KD.out
theorem jan (v : Value) (ps : List EAn) (w : World) (hn : ps.length ≤ 1048576) (hs : ∀ p ∈ ps, p.szs ≤ 1073741824) (hv : RdAn w v ps) :
  Calls Tryz.prog 11 #[v] w fun e w' => ∃ g qs, e = .returned (Q4 g ps.length ps.length) ∧ Uv qs = Uv ps ∧ (∀ b, Xh (Q4 g ps.length ps.length) qs b → w.heap.size ≤ b) ∧ OwnAn w' (Q4 g ps.length ps.length) qs ∧ Same w w' ∧ AnEach qs := by
 obtain ⟨i0, hi, br, aT, bv⟩ := info_parts Tryz.infoAn
 rcases hv.row.row with ⟨rfl, a, c, rfl⟩ | ⟨b, off, c, rfl, hc⟩
 ·clear hv hn hs
  go_enter Tryz.func11, Tryz.ntmps11
  go_wp2_with (at_make; refine wpList_make_full _ rfl (.tmp 6) (.tmp 6) 40 rfl 0 73 i0 (.agg #[V 0, V 0, V 0, V0, V0, V 0]) 6 Tryz.underlying40 hi br aT .i64 .i64 _ _ 0 rfl rfl (by simp) (by simp) (by simp) (by simp) (Nat.zero_le _) ?_; intro w1 aK aC; have HO : Hid (OwnR kAn 0 73 5 w1 (.slice (some ⟨w.heap.size, 0, none⟩) 0 0) []) := Wy (K := kAn) (zp := zAn) (z := .agg #[V 0, V 0, V 0, V0, V0, V 0]) (by decide) rfl rfl rfl (n := 0) (by first | exact aK | simpa [kAn] using aK); have HK : Hid (Same w w1) := Kept.of_grown aC (fun k e => by cases e); clear aK aC)
  refine wp_loop_rounds 1 ?_;rw [rounds_succ];go_wp2;go_ret;exact ⟨w.heap.size, [], rfl, rfl, fun b hb => by rcases hb with hb | ⟨x, hx, _⟩; (simp [Value.ownBlock] at hb; omega); simp at hx, ⟨HO.out, fun x hx => by simp at hx⟩, HK.out, AnEach.nil⟩
 ·have HP := hid hv
  have HC : Hid (∀ j i, (h : j < ps.length) → i < 6 → w.cell? ⟨b, off + (j * 6 + i), none⟩ = (kAn.cells ps[j])[i]?) := hc;have HS : Hid (∀ p ∈ ps, p.szs ≤ 1073741824) := hs;clear hc hv hs;generalize hl : ps.length = len at hn HP ⊢;have HL : Hid (ps.length = len) := hl;clear hl
  go_enter Tryz.func11, Tryz.ntmps11
  go_wp2_with (at_make; refine wpList_make_full _ rfl (.tmp 6) (.tmp 6) 40 rfl 0 73 i0 (.agg #[V 0, V 0, V 0, V0, V0, V 0]) 6 Tryz.underlying40 hi br aT .i64 .i64 _ _ len rfl rfl (by simp) (by simp) (by rw [bv]; omega) (by unfold maxLen; omega) (Nat.zero_le _) ?_; intro w1 aK aC; have HO : Hid (OwnR kAn 0 73 5 w1 (.slice (some ⟨w.heap.size, 0, none⟩) len len) (List.replicate len zAn)) := Wy (K := kAn) (zp := zAn) (z := .agg #[V 0, V 0, V 0, V0, V0, V 0]) (by decide) rfl rfl rfl (by first | exact aK | simpa [kAn] using aK); have HK : Hid (Same w w1) := Kept.of_grown aC (fun k e => by cases e); clear aK aC)
  go_loopw [4] (fun i wr => ∃ (k : Nat) (qs : List EAn), k ≤ len ∧ i = V k ∧ qs.length = k ∧ Hid (Uv qs = Uv (ps.take k)) ∧ Hid (∀ x ∈ qs, ∀ b, x.dv.ownBlock = some b ∨ Uc kHeapRecord x.rv x.rs b → w.heap.size < b) ∧ Hid (OwnR kAn 0 73 5 wr (.slice (some ⟨w.heap.size, 0, none⟩) len len) (qs ++ List.replicate (len - k) zAn)) ∧ Hid (∀ x ∈ qs, OwnR kHeapRecord 0 79 5 wr x.rv x.rs) ∧ Hid (Same w wr) ∧ Hid (AnEach qs) ∧ Hid (∀ x ∈ qs, ∀ b, Y8 x b → b < wr.heap.size)) (fun i _ => len - (intOf i).toNat)
  case atStart => exact ⟨0, [], Nat.zero_le _, rfl, rfl, rfl, fun x hx => by simp at hx, by simpa using HO, fun x hx => by simp at hx, HK, AnEach.nil, fun x hx => by simp at hx⟩
  case round =>
   obtain ⟨k, qs, hk, rfl, nj, HQ, HF, HOr, vA, cu, Ly, Le⟩ := hrel;have bV : Hid (qs.length = k) := nj;clear nj
   by_cases aG : k < len
   ·have aF : k < ps.length := by rw [HL.out]; exact aG
    have lu : Hid (List.replicate (len - k) zAn = zAn :: List.replicate (len - (k + 1)) zAn) := by unfold Hid; rw [show len - k = len - (k + 1) + 1 from by omega, List.replicate_succ]
    have jd := (show Rd .u8 w ps[k].dv ps[k].db from HP.out.row.data _ (List.getElem_mem aF)).same cu.out;have eQ := (HP.out.recs _ (List.getElem_mem aF)).same cu.out;have d9 := HS.out _ (List.getElem_mem aF);have fZ := hid (List.take_succ_eq_append_getElem aF);obtain ⟨P, hP⟩ : ∃ P, ps[k] = P := ⟨_, rfl⟩;rw [hP] at jd eQ d9 fZ;obtain ⟨cs, cD⟩ : ∃ cs, kAn.cells P = cs := ⟨_, rfl⟩
    have oo : cs.length = 6 := by rw [← cD]; exact kAn.len P
    have Ec : Hid (wr.rangeAt b (off + k * 6) cs) := fun j v hv => by
     have hj : j < 6 := by have := (List.getElem?_eq_some_iff.1 hv).1; omega
     have h := HC.out k j aF hj;rw [hP, cD, hv, ← Nat.add_assoc] at h;exact cu.out.cellOf h id
    have HI : Hid ((Tryz.prog.info? 61).map (·.size) = some cs.length) := by unfold Hid; rw [oo]; kernel_rfl
    have AK := hid (ja1 P wr d9 jd eQ);rw [show Value.agg #[V P.cd, V P.tx, V P.rid, P.dv, P.rv, V P.us] = .agg (kAn.cells P).toArray from rfl, cD] at AK
    have bH : Hid (len = (qs ++ zAn :: List.replicate (len - (k + 1)) zAn).length) := by unfold Hid; simp [bV.out]; omega
    have Jp := (HOr.out.lt w.heap.size (.inl rfl)).2;clear jd eQ d9 hP cD oo
    go_wp2_with (first | (refine wpList_load_mid rfl 61 _ rfl b (off + k * 6) rfl cs _ Ec.out Tryz.underlying61 rfl HI.out ?_))
    refine AK.out.mono ?_;rintro e w2 ⟨y, rfl, gX, iq, Ft, xL, ae, Md⟩
    have cY : Hid (OwnR kAn 0 73 5 w2 (.slice (some ⟨w.heap.size, 0, none⟩) len len) (qs ++ zAn :: List.replicate (len - (k + 1)) zAn)) := by have h := HOr.out.same ae; rw [lu.out] at h; exact h
    have ap : Hid (Same w w2) := cu.out.trans ae;have C3 := (show Hid (∀ b, y.dv.ownBlock = some b ∨ Uc kHeapRecord y.rv y.rs b → w.heap.size < b) from fun b hb => by have := xL b hb; omega);have eA : Hid (OwnR kAn 0 73 5 (w2.setCells w.heap.size (k * 6) (kAn.cells y)) (.slice (some ⟨w.heap.size, 0, none⟩) len len) (qs ++ y :: List.replicate (len - (k + 1)) zAn)) := cY.out.setElem (p' := y) bH.out (k * 6) (by rw [bV.out]; rfl) iq (fun b hb hf => by have Nj := HOr.out; rw [lu.out] at Nj; have h1 := xL b (.inl hb); have h2 := (Nj.lt b hf).2; omega)
    have oD := (show Hid (∀ x ∈ qs ++ [y], OwnR kHeapRecord 0 79 5 (w2.setCells w.heap.size (k * 6) (kAn.cells y)) x.rv x.rs) from fun x hx => by
     have mb : Kept (fun b => b = w.heap.size) w2 (w2.setCells w.heap.size (k * 6) (kAn.cells y)) := Kept.setCells (R := fun b => b = w.heap.size) (.inr rfl) _ _ kZ0
     rcases List.mem_append.1 hx with hx | hx
     ·exact ((vA.out x hx).same ae).kept mb (fun b hb e => by have := HF.out x hx b (.inr hb); omega)
     ·obtain rfl : x = y := by simpa using hx
      exact Ft.kept mb (fun b hb e => by have := C3.out b (.inr hb); omega))
    have DF : Hid (Same w (w2.setCells w.heap.size (k * 6) (kAn.cells y))) := Kept.setCells (.inl (Nat.le_refl _)) _ _ ap.out;have mG := (show Hid (AnEach (qs ++ [y])) from Ly.out.snoc Md (fun x hx b h1 h2 => by have := Le.out x hx b h1; have := xL b h2; omega))
    have mH := (show Hid (∀ x ∈ qs ++ [y], ∀ b, Y8 x b → b < (w2.setCells w.heap.size (k * 6) (kAn.cells y)).heap.size) from fun x hx b hb => by
     have mb : Kept (fun b => b = w.heap.size) w2 (w2.setCells w.heap.size (k * 6) (kAn.cells y)) := Kept.setCells (R := fun b => b = w.heap.size) (.inr rfl) _ _ kZ0;have h1 := mb.size
     rcases List.mem_append.1 hx with hx | hx
     ·have := Le.out x hx b hb
      have := ae.size;omega
     ·obtain rfl : x = y := by simpa using hx
      rcases hb with hb | hb
      ·rcases iq.form with ⟨h3, _⟩ | ⟨g, cap, h3, _, h4, _⟩
       ·rw [h3] at hb; cases hb
       ·rw [h3] at hb
        have h5 : g = b := Option.some.inj hb;omega
      ·have := (Ft.lt b hb).2
       omega)
    have ol := hid gX;have My := hid iq;have Mz := hid Ft;obtain ⟨ds, p7⟩ : ∃ ds, kAn.cells y = ds := ⟨_, rfl⟩
    have dS : ds.length = 6 := by rw [← p7]; exact kAn.len y
    have Df : Value.agg #[V y.cd, V y.tx, V y.rid, y.dv, y.rv, V y.us] = .agg ds.toArray := by rw [← p7]; rfl
    have zj : Hid (ds.toArray.all (·.oneCell') = true) := all_oneCell_toArray (fun v hv => by
     rw [← p7] at hv;simp only [kAn, List.mem_cons, List.not_mem_nil, or_false] at hv;obtain ⟨ya, yb, yc, ye⟩ := UD My.out;obtain ⟨za, zc, ze⟩ := Mz.out.slice;rw [ye, ze] at hv
     rcases hv with rfl | rfl | rfl | rfl | rfl | rfl <;> rfl)
    have AQ : Hid ((Tryz.prog.info? 73).map (·.size) = some ds.toArray.size) := by unfold Hid; rw [List.size_toArray, dS]; kernel_rfl
    have rZ : Hid (w2.there w.heap.size (k * 6) ds.toArray.size) := fun j hj => by
     rw [List.size_toArray, dS] at hj;refine ⟨?_, cY.out.frozen bH.out _⟩;rw [cY.out.cellMid bH.out j hj _ (by rw [bV.out]; rfl), List.getElem?_eq_getElem (by rw [kAn.len]; exact hj)];rfl
    rw [Df];rw [p7] at eA oD DF mH;clear gX xL iq Ft Md ae cY ap HOr vA cu AK Ec HI p7 dS Df My Mz
    go_wp2_with (first | (refine wpList_store_mid rfl 73 _ _ rfl w.heap.size (k * 6) ds.toArray rfl rfl rZ.out AQ.out zj.out ?_; rw [List.toList_toArray]))
    go_roundw
    case rel =>
     refine ⟨k + 1, qs ++ [y], by omega, by go_num, by simp [bV.out], ?_, ?_, ?_, oD, DF, mG, mH⟩
     ·have h1 := HQ.out
      have h3 := fZ.out;have h4 := ol.out;unfold Hid;rw [h3];simp only [Uv, List.map_append, List.map_cons, List.map_nil] at h1 ⊢;rw [h1, h4]
     ·intro x hx
      rcases List.mem_append.1 hx with hx | hx
      ·exact HF.out x hx
      ·obtain rfl : x = y := by simpa using hx
       exact C3.out
     ·rw [List.append_assoc]
      exact eA
    case measure => simp [intOf]; omega
   ·go_wp2
    go_ret
    obtain rfl : k = len := by omega
    have h := HOr.out;have h2 := HL.out;have h3 := HQ.out;rw [Nat.sub_self, List.replicate_zero, List.append_nil] at h;rw [← h2, List.take_length] at h3;exact ⟨w.heap.size, qs, rfl, h3, fun b hb => by rcases hb with hb | ⟨x, hx, hb⟩; (simp [Value.ownBlock] at hb; omega); (have := HF.out x hx b hb; omega), ⟨h, vA.out⟩, cu.out, Ly.out⟩
end Go.Proofs.YtljfcdkhicffcaaGreat
