import Derived.Test.YtljfcdkhicffcaaGreatG05
import Derived.Test.YtljfcdkhicffcaaGreatG36
namespace Go.Proofs.YtljfcdkhicffcaaGreat
set_option maxRecDepth 100000
set_option maxHeartbeats 16000000
set_option linter.unusedVariables false
set_option linter.unusedSimpArgs false
open Go Go.RowKit
def kA0 : RowK EAn := ⟨6, kAn.cells, fun _ => rfl, fun _ => V0, fun _ => []⟩
theorem jhx {w : World} {v : Value} {ps : List EAn} (h : OwnR kAn 0 73 5 w v ps) : OwnR kA0 0 73 5 w v ps := by
 have e : kA0.all ps = kAn.all ps := by induction ps with
  | nil => rfl
  | cons p ps ih =>
   have h1 : ∀ l : List EAn, kA0.all l = kAn.all l := fun l => by
    induction l with
    | nil => rfl
    | cons q l ih => show kAn.cells q ++ kA0.all l = kAn.cells q ++ kAn.all l; rw [ih]
   exact h1 _
 refine ⟨by rw [e]; exact h.row, fun p _ => Own.nil 0 _ .u8 w, fun u hu b hb e => ?_, ?_⟩
 ·obtain ⟨p, _, rfl⟩ := List.mem_map.1 hu
  simp [kA0, Value.ownBlock] at e
 ·refine List.pairwise_map.2 (List.pairwise_of_forall (fun a b => fun c hc => ?_))
  simp [kA0, Value.ownBlock] at hc
theorem ZY {v : Value} {ps : List EAn} {b : Nat} (h : Uc kA0 v ps b) : v.ownBlock = some b := by
 rcases h with h | ⟨p, _, h⟩
 ·exact h
 ·simp [kA0, Value.ownBlock] at h
theorem Z8 (va : Value) (ps : List EAn) (k0 : Int) (w : World) (h0 : 0 ≤ k0) (h1 : k0 + 2100000 * (ps.length : Int) ≤ 1125899906842624) (hs : ∀ p ∈ ps, p.szs ≤ 1048576) (ha : OwnAn w va ps) (hE : AnEach ps) :
  Calls Tryz.prog 19 #[va, V k0] w fun e w' => ∃ c : Int, e = .returned (V c) ∧ (k0 ≤ c ∧ c ≤ k0 + 2100000 * (ps.length : Int)) ∧ Kept (Xh va ps) w w' := by
 by_cases hz : ps.length = 0
 ·obtain rfl : ps = [] := List.length_eq_zero_iff.1 hz
  obtain ⟨aa, ca, rfl⟩ : ∃ aa ca, va = .slice aa 0 ca := by rcases ha.row.form with ⟨rfl, _⟩ | ⟨g, cap, rfl, _⟩ <;> exact ⟨_, _, rfl⟩
  clear ha hz h1
  go_enter Tryz.func19, Tryz.ntmps19
  go_wp2;refine wp_loop_rounds 1 ?_;rw [rounds_succ];go_wp2;go_ret;exact ⟨k0, rfl, ⟨Int.le_refl _, by simp⟩, kZ0⟩
 ·obtain ⟨g, cap, rfl, hg⟩ : ∃ g cap, va = Q4 g ps.length cap ∧ g < w.heap.size := by
   rcases ha.row.form with ⟨_, rfl⟩ | ⟨g, cap, h, _, h2, _⟩
   ·simp at hz
   ·exact ⟨g, cap, h, h2⟩
  have HG := (show Hid (∀ x ∈ ps, ∀ b, Y8 x b → ¬ b = g) from fun x hx b hb e => by
   subst e
   rcases hb with hb | hb
   ·exact own_ne ha.row.row (ha.row.data x hx) (by decide) b rfl hb
   ·exact jde ha.row.row (ha.recs x hx) (by decide) (by decide) b rfl hb)
  have iJ := hid ha;have H1 := hid h1;have HS := hid hs;have HE := hid hE
  have hn : ps.length ≤ 1125899906842624 := by omega
  clear ha h1 hs hE;generalize hl : ps.length = len at *;have HL : Hid (ps.length = len) := hl;clear hl
  go_enter Tryz.func19, Tryz.ntmps19
  go_wp2
  go_loopw [1, 5] (fun v i wr => ∃ (k : Nat) (c : Int) (qs : List EAn), k ≤ len ∧ i = V k ∧ v = V c ∧ Hid (k0 ≤ c ∧ c ≤ k0 + 2100000 * (k : Int)) ∧ Hid (qs.length = k) ∧ Hid (OwnR kA0 0 73 5 wr (Q4 g len cap) (qs ++ ps.drop k)) ∧ Hid (∀ x ∈ ps.drop k, (Own 0 5 .u8 wr x.dv x.db) ∧ (OwnR kHeapRecord 0 79 5 wr x.rv x.rs)) ∧ Hid (Kept (Xh (Q4 g len cap) ps) w wr)) (fun _ i _ => len - (intOf i).toNat)
  case atStart => exact ⟨0, k0, [], Nat.zero_le _, rfl, rfl, ⟨Int.le_refl _, by simp⟩, rfl, by simpa [Hid] using jhx iJ.out.row, fun x hx => ⟨iJ.out.row.data x (by simpa using hx), iJ.out.recs x (by simpa using hx)⟩, kZ0⟩
  case round =>
   obtain ⟨k, c0, qs, hk, rfl, rfl, HC, bV, HO, HR, HK⟩ := hrel
   by_cases aG : k < len
   case neg =>
    go_wp2;go_ret
    obtain rfl : k = len := by omega
    exact ⟨c0, rfl, HC.out, HK.out⟩
   have aF : k < ps.length := by rw [HL.out]; exact aG
   have ig := List.drop_eq_getElem_cons aF;have bD := HS.out _ (List.getElem_mem aF);have cU := List.getElem_mem aF;have zo := HE.out.one _ cU;obtain ⟨P, hP⟩ : ∃ P, ps[k] = P := ⟨_, rfl⟩;rw [hP] at ig bD cU zo
   have gn : 0 ≤ c0 := by have := HC.out; omega
   have PN : c0 + 2100000 ≤ 1125899906842624 := by have := HC.out; have := H1.out; omega
   have qS := (show Hid ((P.db.length : Int) + (P.rs.length : Int) + (TW P.rs : Int) ≤ 1048576) from bD);have HM := hid cU;have Pm := hid zo
   have qR := (show Hid (∀ x ∈ ps.drop (k + 1), ∀ b, Y8 P b → ¬ Y8 x b) from fun x hx => by
    have h := HE.out.two;rw [← List.take_append_drop k ps, ig] at h
    exact (List.pairwise_cons.1 (List.pairwise_append.1 h).2.1).1 x hx)
   have sL := (show Hid (∀ x ∈ ps.drop (k + 1), x ∈ ps) from fun x hx => List.mem_of_mem_drop hx);have pX := (show Hid (Own 0 5 .u8 wr P.dv P.db) from (HR.out P (by rw [ig]; exact List.mem_cons_self)).1);have jE := (show Hid (OwnR kHeapRecord 0 79 5 wr P.rv P.rs) from (HR.out P (by rw [ig]; exact List.mem_cons_self)).2);have cM := (show Hid (∀ x ∈ ps.drop (k + 1), (Own 0 5 .u8 wr x.dv x.db) ∧ (OwnR kHeapRecord 0 79 5 wr x.rv x.rs)) from fun x hx => HR.out x (by rw [ig]; exact List.mem_cons_of_mem _ hx));have iH := (show Hid (OwnR kA0 0 73 5 wr (Q4 g len cap) (qs ++ (⟨P.cd, P.tx, P.rid, P.dv, P.db, P.rv, P.rs, P.us⟩ : EAn) :: ps.drop (k + 1))) from by have h := HO.out; rw [ig] at h; exact h)
   have bH : ∀ e : EAn, Hid (len = (qs ++ e :: ps.drop (k + 1)).length) := fun e => by have hl := HL.out; have h2 := bV.out; simp [Hid]; omega
   clear ig hP HO bD HR cU zo;have z : wr.cell? ⟨g, k * 6, none⟩ = some (V P.cd) := iH.out.cellMid (bH _).out 0 (by decide) _ (by rw [bV.out]; rfl);have zf := iH.out.frozen (bH _).out (k * 6)
   go_upto_region 5 with fail
   have gY := (show Hid (OwnR kA0 0 73 5 (wr.setCell ⟨g, k * 6, none⟩ (V (c0))) (Q4 g len cap) (qs ++ (⟨(c0), P.tx, P.rid, P.dv, P.db, P.rv, P.rs, P.us⟩ : EAn) :: ps.drop (k + 1))) from iH.out.set (p' := (⟨(c0), P.tx, P.rid, P.dv, P.db, P.rv, P.rs, P.us⟩ : EAn)) (bH _).out 0 (V (c0)) (by decide) rfl rfl rfl _ (by rw [bV.out]; rfl));have HK := (show Hid (Kept (Xh (Q4 g len cap) ps) w (wr.setCell ⟨g, k * 6, none⟩ (V (c0)))) from HK.out.setCell (p := ⟨g, k * 6, none⟩) (.inr (.inl rfl)) _);have aS : Kept (fun b => b = g) wr (wr.setCell ⟨g, k * 6, none⟩ (V (c0))) := Kept.setCell (R := fun b => b = g) kZ0 (p := ⟨g, k * 6, none⟩) (.inr rfl) _;have pX := hid (pX.out.kept aS (fun b hb e => HG.out P HM.out b (.inl hb) e));have jE := hid (jE.out.kept aS (fun b hb e => HG.out P HM.out b (.inr hb) e));have cM := (show Hid (∀ x ∈ ps.drop (k + 1), (Own 0 5 .u8 (wr.setCell ⟨g, k * 6, none⟩ (V (c0))) x.dv x.db) ∧ (OwnR kHeapRecord 0 79 5 (wr.setCell ⟨g, k * 6, none⟩ (V (c0))) x.rv x.rs)) from fun x hx => ⟨(cM.out x hx).1.kept aS (fun b hb e => HG.out x (sL.out x hx) b (.inl hb) e), (cM.out x hx).2.kept aS (fun b hb e => HG.out x (sL.out x hx) b (.inr hb) e)⟩);clear aS;generalize (wr.setCell ⟨g, k * 6, none⟩ (V (c0))) = y0 at gY HK pX jE cM ⊢;clear z zf iH;have z : y0.cell? ⟨g, k * 6 + 1, none⟩ = some (V P.tx) := gY.out.cellMid (bH _).out 1 (by decide) _ (by rw [bV.out]; rfl);have zf := gY.out.frozen (bH _).out (k * 6 + 1)
   go_upto_region 7 with fail
   have cY := (show Hid (OwnR kA0 0 73 5 (y0.setCell ⟨g, k * 6 + 1, none⟩ (V (c0 + 1))) (Q4 g len cap) (qs ++ (⟨(c0), (c0 + 1), P.rid, P.dv, P.db, P.rv, P.rs, P.us⟩ : EAn) :: ps.drop (k + 1))) from gY.out.set (p' := (⟨(c0), (c0 + 1), P.rid, P.dv, P.db, P.rv, P.rs, P.us⟩ : EAn)) (bH _).out 1 (V (c0 + 1)) (by decide) rfl rfl rfl _ (by rw [bV.out]; rfl));have HK := (show Hid (Kept (Xh (Q4 g len cap) ps) w (y0.setCell ⟨g, k * 6 + 1, none⟩ (V (c0 + 1)))) from HK.out.setCell (p := ⟨g, k * 6 + 1, none⟩) (.inr (.inl rfl)) _);have aS : Kept (fun b => b = g) y0 (y0.setCell ⟨g, k * 6 + 1, none⟩ (V (c0 + 1))) := Kept.setCell (R := fun b => b = g) kZ0 (p := ⟨g, k * 6 + 1, none⟩) (.inr rfl) _;have pX := hid (pX.out.kept aS (fun b hb e => HG.out P HM.out b (.inl hb) e));have jE := hid (jE.out.kept aS (fun b hb e => HG.out P HM.out b (.inr hb) e));have cM := (show Hid (∀ x ∈ ps.drop (k + 1), (Own 0 5 .u8 (y0.setCell ⟨g, k * 6 + 1, none⟩ (V (c0 + 1))) x.dv x.db) ∧ (OwnR kHeapRecord 0 79 5 (y0.setCell ⟨g, k * 6 + 1, none⟩ (V (c0 + 1))) x.rv x.rs)) from fun x hx => ⟨(cM.out x hx).1.kept aS (fun b hb e => HG.out x (sL.out x hx) b (.inl hb) e), (cM.out x hx).2.kept aS (fun b hb e => HG.out x (sL.out x hx) b (.inr hb) e)⟩);clear aS;generalize (y0.setCell ⟨g, k * 6 + 1, none⟩ (V (c0 + 1))) = y1 at cY HK pX jE cM ⊢;clear z zf gY;have z : y1.cell? ⟨g, k * 6 + 2, none⟩ = some (V P.rid) := cY.out.cellMid (bH _).out 2 (by decide) _ (by rw [bV.out]; rfl);have zf := cY.out.frozen (bH _).out (k * 6 + 2)
   go_upto_region 9 with fail
   have dV := (show Hid (OwnR kA0 0 73 5 (y1.setCell ⟨g, k * 6 + 2, none⟩ (V (c0 + 1 + 1))) (Q4 g len cap) (qs ++ (⟨(c0), (c0 + 1), (c0 + 1 + 1), P.dv, P.db, P.rv, P.rs, P.us⟩ : EAn) :: ps.drop (k + 1))) from cY.out.set (p' := (⟨(c0), (c0 + 1), (c0 + 1 + 1), P.dv, P.db, P.rv, P.rs, P.us⟩ : EAn)) (bH _).out 2 (V (c0 + 1 + 1)) (by decide) rfl rfl rfl _ (by rw [bV.out]; rfl));have HK := (show Hid (Kept (Xh (Q4 g len cap) ps) w (y1.setCell ⟨g, k * 6 + 2, none⟩ (V (c0 + 1 + 1)))) from HK.out.setCell (p := ⟨g, k * 6 + 2, none⟩) (.inr (.inl rfl)) _);have aS : Kept (fun b => b = g) y1 (y1.setCell ⟨g, k * 6 + 2, none⟩ (V (c0 + 1 + 1))) := Kept.setCell (R := fun b => b = g) kZ0 (p := ⟨g, k * 6 + 2, none⟩) (.inr rfl) _;have pX := hid (pX.out.kept aS (fun b hb e => HG.out P HM.out b (.inl hb) e));have jE := hid (jE.out.kept aS (fun b hb e => HG.out P HM.out b (.inr hb) e));have cM := (show Hid (∀ x ∈ ps.drop (k + 1), (Own 0 5 .u8 (y1.setCell ⟨g, k * 6 + 2, none⟩ (V (c0 + 1 + 1))) x.dv x.db) ∧ (OwnR kHeapRecord 0 79 5 (y1.setCell ⟨g, k * 6 + 2, none⟩ (V (c0 + 1 + 1))) x.rv x.rs)) from fun x hx => ⟨(cM.out x hx).1.kept aS (fun b hb e => HG.out x (sL.out x hx) b (.inl hb) e), (cM.out x hx).2.kept aS (fun b hb e => HG.out x (sL.out x hx) b (.inr hb) e)⟩);clear aS;generalize (y1.setCell ⟨g, k * 6 + 2, none⟩ (V (c0 + 1 + 1))) = y2 at dV HK pX jE cM ⊢;clear z zf cY;have z : y2.cell? ⟨g, k * 6 + 3, none⟩ = some P.dv := dV.out.cellMid (bH _).out 3 (by decide) _ (by rw [bV.out]; rfl);have fo := qS.out
   go_wp2_with fail
   refine (V5 0 P.dv P.db (c0 + 1 + 1 + 1) _ (by omega) (by omega) (by omega) pX.out).mono ?_;rintro e x1 ⟨rfl, _, hk⟩;have fI := hid (dV.out.kept hk (fun b hb h => HG.out P HM.out b (.inl h) (by have h2 : g = b := (by simpa [Value.ownBlock] using ZY hb); exact h2.symm)));have HK := hid (HK.out.next hk (fun b _ h => .inr ⟨P, HM.out, .inl h⟩));have jE := hid (jE.out.kept hk (fun b hb h => Pm.out b h hb));have cM := (show Hid (∀ x ∈ ps.drop (k + 1), (Own 0 5 .u8 x1 x.dv x.db) ∧ (OwnR kHeapRecord 0 79 5 x1 x.rv x.rs)) from fun x hx => ⟨(cM.out x hx).1.kept hk (fun b hb h => qR.out x hx b (.inl h) (.inl hb)), (cM.out x hx).2.kept hk (fun b hb h => qR.out x hx b (.inl h) (.inr hb))⟩);obtain ⟨n1, eX⟩ : ∃ n : Nat, P.db.length = n := ⟨_, rfl⟩;rw [eX] at fo ⊢;have z2 : x1.cell? ⟨g, k * 6 + 4, none⟩ = some P.rv := fI.out.cellMid (bH _).out 4 (by decide) _ (by rw [bV.out]; rfl);have E0 := Vz (c0 + 1 + 1 + 1 + (n1 : Int)) P.rs;have kR := VB 0 P.rv P.rs (c0 + 1 + 1 + 1 + (n1 : Int)) x1 (by omega) (by omega) (by omega) jE.out;obtain ⟨c2, cR⟩ : ∃ z, Ug mHeapRecord (c0 + 1 + 1 + 1 + (n1 : Int)) P.rs = z := ⟨_, rfl⟩;rw [cR] at kR E0
   have SI : c0 + 3 ≤ c2 ∧ c2 ≤ c0 + 3 + 1048576 := by omega
   clear hk z dV eX pX E0 fo cR
   go_wp2_with fail
   refine kR.mono ?_;rintro e x2 ⟨rfl, _, hk⟩;have dI := hid (fI.out.kept hk (fun b hb h => HG.out P HM.out b (.inr h) (by have h2 : g = b := (by simpa [Value.ownBlock] using ZY hb); exact h2.symm)));have HK := hid (HK.out.next hk (fun b _ h => .inr ⟨P, HM.out, .inr h⟩));have cM := (show Hid (∀ x ∈ ps.drop (k + 1), (Own 0 5 .u8 x2 x.dv x.db) ∧ (OwnR kHeapRecord 0 79 5 x2 x.rv x.rs)) from fun x hx => ⟨(cM.out x hx).1.kept hk (fun b hb h => qR.out x hx b (.inr h) (.inl hb)), (cM.out x hx).2.kept hk (fun b hb h => qR.out x hx b (.inr h) (.inr hb))⟩);clear hk z2 fI kR jE;have z : x2.cell? ⟨g, k * 6 + 5, none⟩ = some (V P.us) := dI.out.cellMid (bH _).out 5 (by decide) _ (by rw [bV.out]; rfl);have zf := dI.out.frozen (bH _).out (k * 6 + 5)
   go_upto_region 13 with fail
   have iK := (show Hid (OwnR kA0 0 73 5 (x2.setCell ⟨g, k * 6 + 5, none⟩ (V c2)) (Q4 g len cap) (qs ++ (⟨(c0), (c0 + 1), (c0 + 1 + 1), P.dv, P.db, P.rv, P.rs, c2⟩ : EAn) :: ps.drop (k + 1))) from dI.out.set (p' := (⟨(c0), (c0 + 1), (c0 + 1 + 1), P.dv, P.db, P.rv, P.rs, c2⟩ : EAn)) (bH _).out 5 (V c2) (by decide) rfl rfl rfl _ (by rw [bV.out]; rfl));have HK := (show Hid (Kept (Xh (Q4 g len cap) ps) w (x2.setCell ⟨g, k * 6 + 5, none⟩ (V c2))) from HK.out.setCell (p := ⟨g, k * 6 + 5, none⟩) (.inr (.inl rfl)) _);have aS : Kept (fun b => b = g) x2 (x2.setCell ⟨g, k * 6 + 5, none⟩ (V c2)) := Kept.setCell (R := fun b => b = g) kZ0 (p := ⟨g, k * 6 + 5, none⟩) (.inr rfl) _;have cM := (show Hid (∀ x ∈ ps.drop (k + 1), (Own 0 5 .u8 (x2.setCell ⟨g, k * 6 + 5, none⟩ (V c2)) x.dv x.db) ∧ (OwnR kHeapRecord 0 79 5 (x2.setCell ⟨g, k * 6 + 5, none⟩ (V c2)) x.rv x.rs)) from fun x hx => ⟨(cM.out x hx).1.kept aS (fun b hb e => HG.out x (sL.out x hx) b (.inl hb) e), (cM.out x hx).2.kept aS (fun b hb e => HG.out x (sL.out x hx) b (.inr hb) e)⟩);clear aS;generalize (x2.setCell ⟨g, k * 6 + 5, none⟩ (V c2)) = x3 at iK HK cM ⊢
   have Dk := (show Hid (k0 ≤ c2 + 1 ∧ c2 + 1 ≤ k0 + 2100000 * ((k + 1 : Nat) : Int)) from by
    have := HC.out
    show k0 ≤ _ ∧ _ ≤ _
    omega)
   clear z zf dI;go_wp2;go_roundw
   case rel => exact ⟨k + 1, _, qs ++ [(⟨(c0), (c0 + 1), (c0 + 1 + 1), P.dv, P.db, P.rv, P.rs, c2⟩ : EAn)], by omega, by go_num, rfl, Dk, by simp [Hid, bV.out], by simpa [Hid] using iK.out, cM, HK⟩
   case measure => simp [intOf]; omega
theorem ZM (p f l : Int) (w : World) : Calls Tryz.prog 8 #[.agg #[V p, V f, V l]] w fun e w' => e = .returned (.agg #[V p, V f, V l]) ∧ Same w w' := by
 go_enter Tryz.func8, Tryz.ntmps8
 go_wp2;refine bodyPost_ret (v := .agg #[V p, V f, V l]) (by simp [results, Tryz.results8, go_sem]) rfl ⟨rfl, ?_⟩
 repeat (first | exact kZ0 | refine Kept.alloc ?_ _ | refine Kept.setCell ?_ (.inl (by simp)) _)
theorem jgy {rs : List EHeapRecord} {ss : List StStep} {zs : List EAn} (h1 : ∀ r ∈ rs, IsB r.bs) (h2 : ∀ s ∈ ss, IsB s.data.bs) (h3 : ∀ a ∈ zs, IsB a.db ∧ ∀ r ∈ a.rs, IsB r.bs)
  (n1 : rs.length ≤ 1048576) (n2 : TW rs ≤ 1048576) (n3 : UZ ss ≤ 1048576) (n4 : UU zs ≤ 1048576) : RunOk rs ss zs := by
 have BJ : ∀ qs : List EHeapRecord, (∀ r ∈ qs, IsB r.bs) → TW qs ≤ 1048576 → OkR (jZ9 qs) := fun qs hb hs r hr => by
  obtain ⟨p, hp, rfl⟩ := List.mem_map.1 hr;have := UW qs p hp;exact ⟨hb p hp, show p.bs.length ≤ 1048576 by omega⟩
 refine ⟨BJ rs h1 n2, by omega, fun s hs => ⟨h2 s hs, ?_⟩, fun a ha => ?_⟩
 ·have := YF ss s hs
  unfold StStep.szs at this;omega
 ·have := YG zs a ha
  unfold EAn.szs at this;exact ⟨⟨(h3 a ha).1, by omega⟩, BJ a.rs (h3 a ha).2 (by omega), by omega⟩
theorem RunOk.dat {rs qs : List EHeapRecord} {ss ts : List StStep} {zs ys : List EAn} (h : RunOk rs ss zs) (h1 : jZ9 qs = jZ9 rs) (h2 : Um ts = Um ss) (h3 : Uv ys = Uv zs) : RunOk qs ts ys := by
 refine ⟨h1 ▸ h.recs, ?_, fun s hs => ?_, fun a ha => ?_⟩
 ·rw [← TQ, h1, TQ]; exact h.len
 ·have hm : s.dat ∈ Um ss := by rw [← h2]; exact List.mem_map_of_mem hs
  obtain ⟨p, hp, he⟩ := List.mem_map.1 hm;have := h.data p hp;simp only [StStep.dat, Prod.mk.injEq] at he;rw [← he.2.2.2.2.1]; exact this
 ·have hm : a.dat ∈ Uv zs := by rw [← h3]; exact List.mem_map_of_mem ha
  obtain ⟨p, hp, he⟩ := List.mem_map.1 hm;have := h.ans p hp;simp only [EAn.dat, Prod.mk.injEq] at he;rw [← he.2.2.2.1, ← he.2.2.2.2.1, ← TQ a.rs, ← he.2.2.2.2.1, TQ]; exact this
structure CpR (rs : List EHeapRecord) (w w' : World) (g L : Nat) (qs : List EHeapRecord) : Prop where
 dat : jZ9 qs = jZ9 rs
 own : OwnR kHeapRecord 0 79 5 w' (Q4 g L L) qs
 ft : ∀ b, Uc kHeapRecord (Q4 g L L) qs b → w.heap.size ≤ b ∧ b < w'.heap.size
structure CpS (ss : List StStep) (w w' : World) (g L : Nat) (qs : List StStep) : Prop where
 dat : Um qs = Um ss
 szs : ZP qs = ZP ss
 own : OwnSp w' (Q4 g L L) qs
 ft : ∀ b, Xg (Q4 g L L) qs b → w.heap.size ≤ b ∧ b < w'.heap.size
structure CpA (zs : List EAn) (w w' : World) (g L : Nat) (qs : List EAn) : Prop where
 dat : Uv qs = Uv zs
 own : OwnAn w' (Q4 g L L) qs
 each : AnEach qs
 ft : ∀ b, Xh (Q4 g L L) qs b → w.heap.size ≤ b ∧ b < w'.heap.size
theorem OwnAn.lt {w : World} {v : Value} {xs : List EAn} (h : OwnAn w v xs) (b : Nat) (hb : Xh v xs b) : b < w.heap.size := by
 rcases hb with hb | ⟨x, hx, hb | hb⟩
 ·exact (h.row.lt b (.inl hb)).2
 ·exact (h.row.lt b (.inr ⟨x, hx, hb⟩)).2
 ·exact ((h.recs x hx).lt b hb).2
theorem jeM {L : Nat} {v : Value} {rs : List EHeapRecord} (hL : rs.length = L) (hn : rs.length ≤ 1048576) (hs : TW rs ≤ 1048576) (w : World) (hv : RdR kHeapRecord w v rs) :
  Calls Tryz.prog 9 #[v] w fun e w' => ∃ g qs, e = .returned (Q4 g L L) ∧ CpR rs w w' g L qs ∧ Same w w' := by
 refine (WX v rs w (by omega) (fun p hp => by have := UW rs p hp; omega) hv).mono ?_;rw [hL];rintro e w' ⟨g, qs, rfl, hd, hf, ho, hk⟩;exact ⟨g, qs, rfl, ⟨hd, ho, fun b hb => ⟨hf b hb, (ho.lt b hb).2⟩⟩, hk⟩
theorem jeN {L : Nat} {v : Value} {ss : List StStep} (hL : ss.length = L) (hn : ss.length ≤ 1048576) (hs : UZ ss ≤ 1048576) (w : World) (hv : RdSp w v ss) :
  Calls Tryz.prog 10 #[v] w fun e w' => ∃ g qs, e = .returned (Q4 g L L) ∧ CpS ss w w' g L qs ∧ Same w w' := by
 refine (jcw v ss w (by omega) (fun p hp => by have := YF ss p hp; omega) hv).mono ?_;rw [hL];rintro e w' ⟨g, qs, rfl, hd, hz, hf, ho, hk⟩;exact ⟨g, qs, rfl, ⟨hd, hz, ho, fun b hb => ⟨hf b hb, ho.lt b hb⟩⟩, hk⟩
theorem jeO {L : Nat} {v : Value} {zs : List EAn} (hL : zs.length = L) (hn : zs.length ≤ 1048576) (hs : UU zs ≤ 1048576) (w : World) (hv : RdAn w v zs) :
  Calls Tryz.prog 11 #[v] w fun e w' => ∃ g qs, e = .returned (Q4 g L L) ∧ CpA zs w w' g L qs ∧ Same w w' := by
 refine (jan v zs w (by omega) (fun p hp => by have := YG zs p hp; omega) hv).mono ?_;rw [hL];rintro e w' ⟨g, qs, rfl, hd, hf, ho, hk, he⟩;exact ⟨g, qs, rfl, ⟨hd, ho, he, fun b hb => ⟨hf b hb, ho.lt b hb⟩⟩, hk⟩
theorem RdF.len {m : Nat} {w : World} {x : FR} (h : RdF m w x) : x.bs.length = x.n * m := h.2.1
theorem CpS.small {ss : List StStep} {w w' : World} {g L : Nat} {qs : List StStep} (h : CpS ss w w' g L qs) (hs : UZ ss ≤ 1048576) : ∀ p ∈ qs, p.data.bs.length ≤ 1048576 ∧ p.keep.bs.length ≤ 1048576 := fun p hp => by
 have hm : p.szs ∈ ZP ss := by rw [← h.szs]; exact List.mem_map_of_mem hp
 obtain ⟨q, hq, he⟩ := List.mem_map.1 hm;have h1 := YF ss q hq
 have h2 : p.keep.bs.length = p.keep.n := by have := (h.own.rd.data p hp).2.len; omega
 unfold StStep.szs at he h1;omega
theorem CpA.small {zs : List EAn} {w w' : World} {g L : Nat} {qs : List EAn} (h : CpA zs w w' g L qs) (hs : UU zs ≤ 1048576) : ∀ p ∈ qs, p.szs ≤ 1048576 := fun p hp => by
 have h1 := YG qs p hp;rw [jai h.dat] at h1;omega
theorem AnsPl.at {w w' : World} {e : Ending} {dc dp : Int} {dr : List RcD} {dt : List (Int × List WrD)} (h : AnsPl w w' e (dc, dp, dr, dt)) : ∃ (ra : Option Addr) (rn rc : Nat) (ps : List EHeapRecord) (ta : Option Addr) (tn tc : Nat) (ts : List ETx), e = .returned (.agg #[V dc, V dp, .slice ra rn rc, .slice ta tn tc]) ∧ jZ9 ps = dr ∧ Uo ts = dt ∧ OwnPv w' (.slice ra rn rc) ps (.slice ta tn tc) ts ∧ (∀ b, ZL (.slice ra rn rc) ps (.slice ta tn tc) ts b → w.heap.size ≤ b ∧ b < w'.heap.size) ∧ Same w w' := by
 obtain ⟨cd, pl, ra, rn, rc, ps, ta, tn, tc, ts, rfl, hd, ho, hk⟩ := h;simp only [Prod.mk.injEq] at hd;obtain ⟨rfl, rfl, h1, h2⟩ := hd;refine ⟨ra, rn, rc, ps, ta, tn, tc, ts, rfl, h1, h2, ho.pv, fun b hb => ?_, hk⟩;have JH := ho.pv
 rcases hb with hb | hb | ⟨t, ht, hb⟩
 ·exact ⟨ho.ftR b hb, (JH.recs.lt b hb).2⟩
 ·exact ⟨ho.ftT b (.inl hb), (JH.tx.own.lt b (.inl hb)).2⟩
 ·exact ⟨ho.ftT b (.inr ⟨t, ht, hb⟩), ((JH.tx.wr t ht).lt b hb).2⟩
theorem jcf (gp gf gl : Int) (rv : Value) (rs : List EHeapRecord) (sv : Value) (ss : List StStep) (av : Value) (zs : List EAn) (w : World) (hr : RdR kHeapRecord w rv rs) (cW : ∀ r ∈ rs, IsB r.bs) (hs : RdSp w sv ss) (aV : ∀ s ∈ ss, IsB s.data.bs) (ha : RdAn w av zs) (bP : ∀ a ∈ zs, IsB a.db ∧ ∀ r ∈ a.rs, IsB r.bs) :
  Calls Tryz.prog 3 #[.agg #[V gp, V gf, V gl], rv, sv, av] w fun e w' => e = .returned (.bool true) ∧ Same w w' := by
 obtain ⟨ra, rc, tC⟩ := hr.form;obtain ⟨sa, sc, wL⟩ := hs.form;obtain ⟨aa, ac, xh⟩ := ha.form;have d9 := hr.max;have jB := hs.row.max;have iA := ha.row.max;unfold maxLen at d9 jB iA;obtain ⟨L, hL⟩ : ∃ n, rs.length = n := ⟨_, rfl⟩;obtain ⟨S, ic⟩ : ∃ n, ss.length = n := ⟨_, rfl⟩;obtain ⟨A, kU⟩ : ∃ n, zs.length = n := ⟨_, rfl⟩;rw [hL] at tC d9;rw [ic] at wL jB;rw [kU] at xh iA;subst tC wL xh;have HR := hid hr;have HS := hid hs;have HA := hid ha;have HB := hid (And.intro cW (And.intro aV bP));have mQ := hid hL;have g9 := hid ic;have pG := hid kU;clear hr hs ha cW aV bP hL ic kU;have IS := hid (Uj w [V gp, V gf, V gl] 23);have rU := hid (Blk.newL w [V gp, V gf, V gl] 23)
 go_enter Tryz.func3, Tryz.ntmps3
 go_upto_region 1 with fail
 generalize w.alloc (.cells #[V gp, V gf, V gl] 23) = w1 at *;obtain ⟨AB, Nh⟩ : ∃ x, w.heap.size = x := ⟨_, rfl⟩;rw [Nh] at rU ⊢
 have Tt : w.heap.size ≤ AB := by omega
 have Tr := rU.out.lt;clear Nh
 go_wp2_with fail
 refine (WW (.slice ra L rc) rs 1048576 w1 (by omega) (by omega) (HR.out.same IS.out)).mono ?_;rintro e w2 ⟨JB, rfl, hr, hk⟩;have OO := hk.size;have F2 := hid (IS.out.trans hk);have CF := hid (rU.out.same hk);clear hk IS rU
 rcases hr with rfl | ⟨hr, mA⟩
 ·go_wp2
  go_ret;exact ⟨rfl, F2.out⟩
 rw [mQ.out] at hr
 have oK : TW rs ≤ 1048576 := by omega
 have qD : L ≤ 1048576 := by omega
 have Qs : JB ≤ 1048576 := by omega
 have La : ¬ JB < 0 := by omega
 clear hr
 go_wp2_with fail
 refine (jcv (.slice sa S sc) ss JB w2 (by omega) (by omega) (HS.out.same F2.out)).mono ?_;rintro e w3 ⟨szs, rfl, hr, hk⟩;have OP := hk.size;have Gw := hid (F2.out.trans hk);have B9 := hid (CF.out.same hk);clear hk F2 CF
 rcases hr with rfl | ⟨hr, mA⟩
 ·go_wp2
  go_ret;exact ⟨rfl, Gw.out⟩
 have mE := Yw ss;rw [g9.out] at hr
 have kj : UZ ss ≤ 1048576 := by omega
 have rm : S ≤ 1048576 := by omega
 have Ry : szs ≤ 1048576 := by omega
 have Lt : ¬ szs < 0 := by omega
 clear mE;clear hr
 go_wp2_with fail
 refine (jaZ (.slice aa A ac) zs szs w3 (by omega) (by omega) (HA.out.same Gw.out)).mono ?_;rintro e w4 ⟨Mc, rfl, hr, hk⟩;have Qt := hk.size;have Je := hid (Gw.out.trans hk);have lX := hid (B9.out.same hk);clear hk Gw B9
 rcases hr with rfl | ⟨hr, mA⟩
 ·go_wp2
  go_ret;exact ⟨rfl, Je.out⟩
 have mE := Yx zs;rw [pG.out] at hr
 have jT : UU zs ≤ 1048576 := by omega
 have sF : A ≤ 1048576 := by omega
 have QH : Mc ≤ 1048576 := by omega
 have MI : ¬ Mc < 0 := by omega
 clear mE;clear hr;have bd : RunOk rs ss zs := jgy HB.out.1 HB.out.2.1 HB.out.2.2 (by rw [mQ.out]; exact qD) oK kj jT;have mT := jfD (gp := gp) (gf := gf) (gl := gl) bd;obtain ⟨D, hD⟩ : ∃ D, XO gp gf gl (jZ9 rs) (Um ss) (Uv zs) = D := ⟨_, rfl⟩;rw [hD] at mT;obtain ⟨dc, dp, dr, dt⟩ := D
 have CW := (show Hid (∀ (wx : World) (rv : Value) (q1 : List EHeapRecord) (sv : Value) (q2 : List StStep) (av : Value) (q3 : List EAn), RdR kHeapRecord wx rv q1 → RdSp wx sv q2 → RdAn wx av q3 → jZ9 q1 = jZ9 rs → Um q2 = Um ss → Uv q3 = Uv zs → Calls Tryz.prog 7 #[.agg #[V gp, V gf, V gl], rv, sv, av] wx fun e w' => AnsPl wx w' e (dc, dp, dr, dt)) from fun wx rv q1 sv q2 av q3 h1 h2 h3 e1 e2 e3 => by
  have h := jeg gp gf gl rv q1 sv q2 av q3 wx h1 h2 h3 (bd.dat e1 e2 e3);rw [e1, e2, e3, hD] at h
  exact h)
 have uw := (show Hid (∀ (wx : World) (rv : Value) (q1 : List EHeapRecord) (sv : Value) (q2 : List StStep) (av : Value) (q3 : List EAn), RdR kHeapRecord wx rv q1 → RdSp wx sv q2 → RdAn wx av q3 → jZ9 q1 = jZ9 rs → Um q2 = Um ss → Uv q3 = Uv zs → Calls Tryz.prog 12 #[.agg #[V gp, V gf, V gl], rv, sv, av] wx fun e w' => AnsPl wx w' e (dc, dp, dr, dt)) from fun wx rv q1 sv q2 av q3 h1 h2 h3 e1 e2 e3 => by
  have h := jej gp gf gl rv q1 sv q2 av q3 wx h1 h2 h3 (bd.dat e1 e2 e3);rw [e1, e2, e3, hD] at h
  exact h)
 have Ac := (show Hid (∀ (ps : List EHeapRecord) (ts : List ETx), jZ9 ps = dr → Uo ts = dt → PvB ps ts) from fun ps ts h1 h2 => mT.pvB h1 h2);clear mT hD bd HB;have jv := lX.out.c0;have jk := lX.out.c1;have iX := lX.out.c2;have Ds := lX.out.lt
 go_wp2_with fail
 refine (ZM gp gf gl w4).mono ?_;rintro e w5 ⟨rfl, hk⟩;clear jv jk iX Ds;have RH := hk.size;have GM := hid (Je.out.trans hk);have Dq := hid (lX.out.same hk);clear hk Je lX
 go_wp2_with fail
 refine (jeM mQ.out (by rw [mQ.out]; exact qD) oK w5 (HR.out.same GM.out)).mono ?_;rintro e w6 ⟨Oz, Oi, rfl, hc, hk⟩;have PU := hk.size;have I4 := hid (GM.out.trans hk);have Ew := hid (Dq.out.same hk);clear hk GM Dq;have Lf := hid hc;clear hc;have xj := (show Hid (OwnR kHeapRecord 0 79 5 w6 (Q4 Oz L L) Oi) from Lf.out.own)
 go_wp2_with fail
 refine (jeN g9.out (by rw [g9.out]; exact rm) kj w6 (HS.out.same I4.out)).mono ?_;rintro e w7 ⟨OB, Oj, rfl, hc, hk⟩;have PV := hk.size;have Js := hid (I4.out.trans hk);have Cd := hid (Ew.out.same hk);have uJ := hid (xj.out.same hk);clear hk I4 Ew xj;have Mq := hid hc;clear hc;have uH := (show Hid (OwnSp w7 (Q4 OB S S) Oj) from Mq.out.own)
 go_wp2_with fail
 refine (jeO pG.out (by rw [pG.out]; exact sF) jT w7 (HA.out.same Js.out)).mono ?_;rintro e w8 ⟨Oo, LG, rfl, hc, hk⟩;have Rj := hk.size;have MS := hid (Js.out.trans hk);have Dc := hid (Cd.out.same hk);have np := hid (uJ.out.same hk);have nP := hid (uH.out.same hk);clear hk Js Cd uJ uH;have Lb := hid hc;clear hc;have nw := (show Hid (OwnAn w8 (Q4 Oo A A) LG) from Lb.out.own)
 go_wp2_with fail
 refine (CW.out w8 (Q4 Oz L L) Oi (Q4 OB S S) Oj (Q4 Oo A A) LG np.out.rd nP.out.rd nw.out.rd Lf.out.dat Mq.out.dat Lb.out.dat).mono ?_;rintro e w9 jR;obtain ⟨uF, tT, tK, Gl, wY, tZ, ux, GH, rfl, jd, eQ, ho, xl, hk⟩ := jR.at;clear jR;have Pb := hk.size;have LA := hid (MS.out.trans hk);have E4 := hid (Dc.out.same hk);have EI := hid (np.out.same hk);have Ep := hid (nP.out.same hk);have CC := hid (nw.out.same hk);clear hk MS Dc np nP nw;have jQ := hid (And.intro jd eQ);have GC := hid xl;clear jd eQ xl;have EM := (show Hid (OwnPv w9 (.slice uF tT tK) Gl (.slice wY tZ ux) GH) from ho);clear ho;clear EI;clear Ep;clear CC
 go_upto_region 12 with fail
 have hk := Uj w9 [V dc, V dp, .slice uF tT tK, .slice wY tZ ux] 33;have cA := Blk.newL w9 [V dc, V dp, .slice uF tT tK, .slice wY tZ ux] 33;generalize w9.alloc (.cells #[V dc, V dp, .slice uF tT tK, .slice wY tZ ux] 33) = dQ at *;obtain ⟨BW, JV⟩ : ∃ x, w9.heap.size = x := ⟨_, rfl⟩;have S3 : w9.heap.size = BW := JV;rw [JV] at cA ⊢;have S2 := cA.lt;have LP := hk.size;have zM := hid (LA.out.trans hk);have vU := hid (E4.out.same hk);have uZ := hid (EM.out.same hk);clear hk LA E4 EM;have tj := (show Hid (Blk dQ BW 33 [V dc, V dp, .slice uF tT tK, .slice wY tZ ux]) from cA);clear cA JV
 go_wp2_with fail
 refine (jeM mQ.out (by rw [mQ.out]; exact qD) oK dQ (HR.out.same zM.out)).mono ?_;rintro e ep ⟨Gr, vV, rfl, hc, hk⟩;have LW := hk.size;have yq := hid (zM.out.trans hk);have xo := hid (vU.out.same hk);have uG := hid (uZ.out.same hk);have tu := hid (tj.out.same hk);clear hk zM vU uZ tj;have lg := hid hc;clear hc;have oW := (show Hid (OwnR kHeapRecord 0 79 5 ep (Q4 Gr L L) vV) from lg.out.own)
 go_wp2_with fail
 refine (jeN g9.out (by rw [g9.out]; exact rm) kj ep (HS.out.same yq.out)).mono ?_;rintro e gJ ⟨F6, Dv, rfl, hc, hk⟩;have MU := hk.size;have yv := hid (yq.out.trans hk);have xx := hid (xo.out.same hk);have s9 := hid (uG.out.same hk);have uj := hid (tu.out.same hk);have oO := hid (oW.out.same hk);clear hk yq xo uG tu oW;have lq := hid hc;clear hc;have o4 := (show Hid (OwnSp gJ (Q4 F6 S S) Dv) from lq.out.own)
 go_wp2_with fail
 refine (jeO pG.out (by rw [pG.out]; exact sF) jT gJ (HA.out.same yv.out)).mono ?_;rintro e gx ⟨Ge, Dl, rfl, hc, hk⟩;have Lc := hk.size;have Bv := hid (yv.out.trans hk);have gT := hid (xx.out.same hk);have wG := hid (s9.out.same hk);have t6 := hid (uj.out.same hk);have pc := hid (oO.out.same hk);have qE := hid (o4.out.same hk);clear hk yv xx s9 uj oO o4;have jJ := hid hc;clear hc;have pF := (show Hid (OwnAn gx (Q4 Ge A A) Dl) from jJ.out.own);have jv := gT.out.c0;have jk := gT.out.c1;have iX := gT.out.c2;have Ds := gT.out.lt
 go_wp2_with fail
 refine (ZM gp gf gl gx).mono ?_;rintro e gL ⟨rfl, hk⟩;clear jv jk iX Ds;have Lu := hk.size;have BE := hid (Bv.out.trans hk);have vt := hid (gT.out.same hk);have t7 := hid (wG.out.same hk);have wI := hid (t6.out.same hk);have j9 := hid (pc.out.same hk);have kh := hid (qE.out.same hk);have kZ := hid (pF.out.same hk);clear hk Bv gT wG t6 pc qE pF
 go_wp2_with fail
 refine (uw.out gL (Q4 Gr L L) vV (Q4 F6 S S) Dv (Q4 Ge A A) Dl j9.out.rd kh.out.rd kZ.out.rd lg.out.dat lq.out.dat jJ.out.dat).mono ?_;rintro e eC jR;obtain ⟨pS, oL, qI, jy, pw, nC, o9, lm, rfl, jd, eQ, ho, xl, hk⟩ := jR.at;clear jR;have Nq := hk.size;have Cr := hid (BE.out.trans hk);have vW := hid (vt.out.same hk);have uy := hid (t7.out.same hk);have uE := hid (wI.out.same hk);have p6 := hid (j9.out.same hk);have oX := hid (kh.out.same hk);have qB := hid (kZ.out.same hk);clear hk BE vt t7 wI j9 kh kZ;have lP := hid (And.intro jd eQ);have wR := hid xl;clear jd eQ xl;have wt := (show Hid (OwnPv eC (.slice pS oL qI) jy (.slice pw nC o9) lm) from ho);clear ho
 go_upto_region 16 with fail
 have hk := Uj eC [V dc, V dp, .slice pS oL qI, .slice pw nC o9] 33;have cA := Blk.newL eC [V dc, V dp, .slice pS oL qI, .slice pw nC o9] 33;generalize eC.alloc (.cells #[V dc, V dp, .slice pS oL qI, .slice pw nC o9] 33) = Bu at *;obtain ⟨BG, JQ⟩ : ∃ x, eC.heap.size = x := ⟨_, rfl⟩;have Tj : eC.heap.size = BG := JQ;rw [JQ] at cA ⊢;have Tn := cA.lt;have Ow := hk.size;have CS := hid (Cr.out.trans hk);have xN := hid (vW.out.same hk);have nZ := hid (uy.out.same hk);have fM := hid (uE.out.same hk);have pB := hid (p6.out.same hk);have oH := hid (oX.out.same hk);have qi := hid (qB.out.same hk);have qC := hid (wt.out.same hk);clear hk Cr vW uy uE p6 oX qB wt;have fK := (show Hid (Blk Bu BG 33 [V dc, V dp, .slice pS oL qI, .slice pw nC o9]) from cA);clear cA JQ;have eL := fK.out.c0;have eG := fK.out.c1;have eO := fK.out.c2;have eH := fK.out.c3;have r7 := fK.out.lt;have jc := fM.out.c0;have jn := fM.out.c1;have jb := fM.out.c2;have jl := fM.out.c3;have CJ := fM.out.lt
 go_wp2_with fail
 refine (Yg dc dp pS oL qI pw nC o9 uF tT tK wY tZ ux jy Gl lm GH Bu (lP.out.1.trans jQ.out.1.symm) (lP.out.2.trans jQ.out.2.symm) (Ac.out jy lm lP.out.1 lP.out.2) qC.out nZ.out).mono ?_;rintro e dJ ⟨rfl, hk⟩;clear eL eG eO eH r7;clear jc jn jb jl CJ;have Ni := hk.size;have yE := hid (CS.out.trans hk);have tQ := hid (xN.out.same hk);have tJ := hid (nZ.out.same hk);have sX := hid (fM.out.same hk);have pe := hid (pB.out.same hk);have ql := hid (oH.out.same hk);have qf := hid (qi.out.same hk);have wW := hid (qC.out.same hk);have vT := hid (fK.out.same hk);clear hk CS xN nZ fM pB oH qi qC fK
 go_wp2_with fail
 refine (jeM mQ.out (by rw [mQ.out]; exact qD) oK dJ (HR.out.same yE.out)).mono ?_;rintro e MB ⟨OC, Mt, rfl, hc, hk⟩;have Ls := hk.size;have CH := hid (yE.out.trans hk);have uB := hid (tQ.out.same hk);have tY := hid (tJ.out.same hk);have vr := hid (sX.out.same hk);have jV := hid (pe.out.same hk);have pK := hid (ql.out.same hk);have nI := hid (qf.out.same hk);have wi := hid (wW.out.same hk);have uM := hid (vT.out.same hk);clear hk yE tQ tJ sX pe ql qf wW vT;have LM := hid hc;clear hc;have ky := (show Hid (OwnR kHeapRecord 0 79 5 MB (Q4 OC L L) Mt) from LM.out.own)
 go_wp2_with fail
 refine (VR 0 (Q4 Gr L L) (Q4 OC L L) vV Mt MB (by rw [← TQ, lg.out.dat, TQ, mQ.out]; omega) (lg.out.dat.trans LM.out.dat.symm) (fun p hp => by have h1 := UW vV p hp; rw [VA lg.out.dat] at h1; omega) jV.out ky.out).mono ?_;rintro e PR ⟨rfl, hk⟩;have Nb := hk.size;have zF := hid (CH.out.trans hk);have ui := hid (uB.out.same hk);have vv := hid (tY.out.same hk);have vS := hid (vr.out.same hk);have py := hid (jV.out.same hk);have qt := hid (pK.out.same hk);have oF := hid (nI.out.same hk);have tM := hid (wi.out.same hk);have tE := hid (uM.out.same hk);have zn := hid (ky.out.same hk);clear hk CH uB tY vr jV pK nI wi uM ky;clear zn
 go_wp2_with fail
 refine (jeN g9.out (by rw [g9.out]; exact rm) kj PR (HS.out.same zF.out)).mono ?_;rintro e MC ⟨Lk, Mg, rfl, hc, hk⟩;have KJ := hk.size;have BL := hid (zF.out.trans hk);have vP := hid (ui.out.same hk);have tG := hid (vv.out.same hk);have uX := hid (vS.out.same hk);have oQ := hid (py.out.same hk);have jW := hid (qt.out.same hk);have oE := hid (oF.out.same hk);have uT := hid (tM.out.same hk);have wE := hid (tE.out.same hk);clear hk zF ui vv vS py qt oF tM tE;have Nr := hid hc;clear hc;have j8 := (show Hid (OwnSp MC (Q4 Lk S S) Mg) from Nr.out.own)
 go_wp2_with fail
 refine (jcu (Q4 F6 S S) (Q4 Lk S S) Dv Mg MC (by rw [← Ul, lq.out.dat, Ul, g9.out]; omega) (lq.out.dat.trans Nr.out.dat.symm) (fun p hp => by have h1 := lq.out.small kj p hp; unfold StStep.size; omega) jW.out j8.out).mono ?_;rintro e RR ⟨rfl, hk⟩;have LD := hk.size;have zU := hid (BL.out.trans hk);have uV := hid (vP.out.same hk);have uI := hid (tG.out.same hk);have tW := hid (uX.out.same hk);have nD := hid (oQ.out.same hk);have ny := hid (jW.out.same hk);have og := hid (oE.out.same hk);have tH := hid (uT.out.same hk);have tI := hid (wE.out.same hk);have zx := hid (j8.out.same hk);clear hk BL vP tG uX oQ jW oE uT wE j8;clear zx
 go_wp2_with fail
 refine (jeO pG.out (by rw [pG.out]; exact sF) jT RR (HA.out.same zU.out)).mono ?_;rintro e MY ⟨MH, NC, rfl, hc, hk⟩;have NE := hk.size;have D7 := hid (zU.out.trans hk);have uY := hid (uV.out.same hk);have vh := hid (uI.out.same hk);have wh := hid (tW.out.same hk);have qx := hid (nD.out.same hk);have pC := hid (ny.out.same hk);have kz := hid (og.out.same hk);have tq := hid (tH.out.same hk);have xA := hid (tI.out.same hk);clear hk zU uV uI tW nD ny og tH tI;have Mm := hid hc;clear hc;have jY := (show Hid (OwnAn MY (Q4 MH A A) NC) from Mm.out.own)
 go_wp2_with fail
 refine (ja0 (Q4 Ge A A) (Q4 MH A A) Dl NC MY (by rw [← Uz, jJ.out.dat, Uz, pG.out]; omega) (jJ.out.dat.trans Mm.out.dat.symm) (fun p hp => by have h1 := jJ.out.small jT p hp; omega) kz.out jY.out).mono ?_;rintro e Rm ⟨rfl, hk⟩;have LY := hk.size;have Ey := hid (D7.out.trans hk);have tF := hid (uY.out.same hk);have xd := hid (vh.out.same hk);have uL := hid (wh.out.same hk);have o5 := hid (qx.out.same hk);have nW := hid (pC.out.same hk);have qA := hid (kz.out.same hk);have wA := hid (tq.out.same hk);have xF := hid (xA.out.same hk);have zO := hid (jY.out.same hk);clear hk D7 uY vh wh qx pC kz tq xA jY;clear zO
 have cV : vV.length = L := by rw [← TQ, lg.out.dat, TQ, mQ.out]
 have heq := Vz 1 vV;rw [VA lg.out.dat, cV] at heq
 go_wp2_with fail
 refine (VB 0 (Q4 Gr L L) vV 1 Rm (by omega) (by omega) (by omega) o5.out).mono ?_;rintro e Sv ⟨rfl, _, hk⟩;obtain ⟨k1, af⟩ : ∃ z, Ug mHeapRecord 1 vV = z := ⟨_, rfl⟩;rw [af] at heq ⊢
 have Ts : 1 ≤ k1 ∧ k1 ≤ 3000000 := by omega
 clear heq af cV;clear o5;have NS := hk.size;have B8 := hid (Ey.out.next hk (fun i hi hb => absurd hi (by have := lg.out.ft i hb; omega)));have wB := hid (tF.out.kept hk (fun hb => by have := lg.out.ft _ hb; omega));have xu := hid (xd.out.kept hk (fun b hb aV => by have h1 := lg.out.ft b aV; have h2 := GC.out b hb; omega));have vN := hid (uL.out.kept hk (fun hb => by have := lg.out.ft _ hb; omega));have nJ := hid (nW.out.kept hk (fun b hb aV => by have h1 := lg.out.ft b aV; have h2 := lq.out.ft b hb; omega));have pf := hid (qA.out.kept hk (fun b hb aV => by have h1 := lg.out.ft b aV; have h2 := jJ.out.ft b hb; omega));have wm := hid (wA.out.kept hk (fun b hb aV => by have h1 := lg.out.ft b aV; have h2 := wR.out b hb; omega));have uU := hid (xF.out.kept hk (fun hb => by have := lg.out.ft _ hb; omega));clear hk Ey tF xd uL nW qA wA xF
 have cV : Dv.length = S := by rw [← Ul, lq.out.dat, Ul, g9.out]
 go_wp2_with fail
 refine (jaY (Q4 F6 S S) Dv k1 Sv (by omega) (by omega) (lq.out.small kj) nJ.out).mono ?_;rintro e Rt ⟨k2, rfl, Kd, hk⟩;rw [cV] at Kd;clear cV;clear nJ;have M3 := hk.size;have Dt := hid (B8.out.next hk (fun i hi hb => absurd hi (by have := lq.out.ft i hb; omega)));have vi := hid (wB.out.kept hk (fun hb => by have := lq.out.ft _ hb; omega));have sZ := hid (xu.out.kept hk (fun b hb aV => by have h1 := lq.out.ft b aV; have h2 := GC.out b hb; omega));have uK := hid (vN.out.kept hk (fun hb => by have := lq.out.ft _ hb; omega));have oS := hid (pf.out.kept hk (fun b hb aV => by have h1 := lq.out.ft b aV; have h2 := jJ.out.ft b hb; omega));have xR := hid (wm.out.kept hk (fun b hb aV => by have h1 := lq.out.ft b aV; have h2 := wR.out b hb; omega));have wS := hid (uU.out.kept hk (fun hb => by have := lq.out.ft _ hb; omega));clear hk B8 wB xu vN pf wm uU
 have cV : Dl.length = A := by rw [← Uz, jJ.out.dat, Uz, pG.out]
 go_wp2_with fail
 refine (Z8 (Q4 Ge A A) Dl k2 Rt (by omega) (by omega) (jJ.out.small jT) oS.out jJ.out.each).mono ?_;rintro e P4 ⟨k3, rfl, R4, hk⟩;rw [cV] at R4;clear cV;clear oS;have N0 := hk.size;have En := hid (Dt.out.next hk (fun i hi hb => absurd hi (by have := jJ.out.ft i hb; omega)));have sU := hid (vi.out.kept hk (fun hb => by have := jJ.out.ft _ hb; omega));have nN := hid (sZ.out.kept hk (fun b hb aV => by have h1 := jJ.out.ft b aV; have h2 := GC.out b hb; omega));have fS := hid (uK.out.kept hk (fun hb => by have := jJ.out.ft _ hb; omega));have nB := hid (xR.out.kept hk (fun b hb aV => by have h1 := jJ.out.ft b aV; have h2 := wR.out b hb; omega));have gj := hid (wS.out.kept hk (fun hb => by have := jJ.out.ft _ hb; omega));clear hk Dt vi sZ uK xR wS
 have PF : ¬ k3 < 0 := by omega
 have eL := gj.out.c0;have eG := gj.out.c1;have eO := gj.out.c2;have eH := gj.out.c3;have r7 := gj.out.lt;have jc := fS.out.c0;have jn := fS.out.c1;have jb := fS.out.c2;have jl := fS.out.c3;have CJ := fS.out.lt
 go_wp2_with fail
 refine (Yg dc dp pS oL qI pw nC o9 uF tT tK wY tZ ux jy Gl lm GH P4 (lP.out.1.trans jQ.out.1.symm) (lP.out.2.trans jQ.out.2.symm) (Ac.out jy lm lP.out.1 lP.out.2) nB.out nN.out).mono ?_;rintro e Qr ⟨rfl, hk⟩;clear eL eG eO eH r7;clear jc jn jb jl CJ;have LJ := hk.size;have Dd := hid (En.out.trans hk);have uC := hid (sU.out.same hk);have vz := hid (nN.out.same hk);have sW := hid (fS.out.same hk);have s6 := hid (nB.out.same hk);have fP := hid (gj.out.same hk);clear hk En sU nN fS nB gj;have eL := fP.out.c0;have eG := fP.out.c1;have eO := fP.out.c2;have eH := fP.out.c3;have r7 := fP.out.lt
 go_wp2_with fail
 refine (jbg dc dp pS oL qI pw nC o9 jy lm 1 Qr (by omega) (Ac.out jy lm lP.out.1 lP.out.2) s6.out).mono ?_;rintro e Mw ⟨rfl, ho, hk⟩;clear eL eG eO eH r7;clear s6;have Ns := hk.size;have EP := hid (Dd.out.next hk (fun i hi hb => absurd hi (by have := wR.out i hb; omega)));have xq := hid (uC.out.kept hk (fun hb => by have := wR.out _ hb; omega));have vR := hid (vz.out.kept hk (fun b hb aV => by have h1 := wR.out b aV; have h2 := GC.out b hb; omega));have uQ := hid (sW.out.kept hk (fun hb => by have := wR.out _ hb; omega));have gg := hid (fP.out.kept hk (fun hb => by have := wR.out _ hb; omega));clear hk Dd uC vz sW fP;have o6 := (show Hid (OwnPv Mw (.slice pS oL qI) (Uk mHeapRecord 1 jy) (.slice pw nC o9) (Uk mTx (Ug mHeapRecord 1 jy) lm)) from ho);clear ho;have fy : 1 ≤ Ug mTx (Ug mHeapRecord 1 jy) lm := Int.le_trans (Vu mHeapRecord 1 jy) (Vu mTx _ lm);obtain ⟨C, hC⟩ : ∃ z, Ug mTx (Ug mHeapRecord 1 jy) lm = z := ⟨_, rfl⟩;rw [hC] at fy ⊢;have HC := hid hC
 have F9 : ¬ C < 0 := by omega
 clear hC;have eL := gg.out.c0;have eG := gg.out.c1;have eO := gg.out.c2;have eH := gg.out.c3;have r7 := gg.out.lt
 go_wp2_with fail
 refine (YC dc dp pS oL qI pw nC o9 jy lm 1 Mw (by omega) (Ac.out jy lm lP.out.1 lP.out.2) o6.out).mono ?_;rw [HC.out];rintro e O3 ⟨rfl, hk⟩;clear eL eG eO eH r7;have LH := hk.size;have Eu := hid (EP.out.trans hk);have gQ := hid (xq.out.same hk);have xt := hid (vR.out.same hk);have um := hid (uQ.out.same hk);have vZ := hid (gg.out.same hk);have wN := hid (o6.out.same hk);clear hk EP xq vR uQ gg o6;have jv := gQ.out.c0;have jk := gQ.out.c1;have iX := gQ.out.c2;have Ds := gQ.out.lt
 go_wp2_with fail
 refine (ZM gp gf gl O3).mono ?_;rintro e Pw ⟨rfl, hk⟩;clear jv jk iX Ds;have Mi := hk.size;have yh := hid (Eu.out.trans hk);have xB := hid (gQ.out.same hk);have vM := hid (xt.out.same hk);have ug := hid (um.out.same hk);have vO := hid (vZ.out.same hk);have xv := hid (wN.out.same hk);clear hk Eu gQ xt um vZ wN
 go_wp2_with fail
 refine (jeM mQ.out (by rw [mQ.out]; exact qD) oK Pw (HR.out.same yh.out)).mono ?_;rintro e Mu ⟨KZ, M6, rfl, hc, hk⟩;have K9 := hk.size;have zl := hid (yh.out.trans hk);have uA := hid (xB.out.same hk);have vD := hid (vM.out.same hk);have wQ := hid (ug.out.same hk);have sO := hid (vO.out.same hk);have sH := hid (xv.out.same hk);clear hk yh xB vM ug vO xv;have OH := hid hc;clear hc;have oJ := (show Hid (OwnR kHeapRecord 0 79 5 Mu (Q4 KZ L L) M6) from OH.out.own)
 go_wp2_with fail
 refine (jeN g9.out (by rw [g9.out]; exact rm) kj Mu (HS.out.same zl.out)).mono ?_;rintro e Lg ⟨L6, NN, rfl, hc, hk⟩;have Ma := hk.size;have yQ := hid (zl.out.trans hk);have xH := hid (uA.out.same hk);have xr := hid (vD.out.same hk);have uo := hid (wQ.out.same hk);have sM := hid (sO.out.same hk);have vB := hid (sH.out.same hk);have qm := hid (oJ.out.same hk);clear hk zl uA vD wQ sO sH oJ;have MW := hid hc;clear hc;have oP := (show Hid (OwnSp Lg (Q4 L6 S S) NN) from MW.out.own)
 go_wp2_with fail
 refine (jeO pG.out (by rw [pG.out]; exact sF) jT Lg (HA.out.same yQ.out)).mono ?_;rintro e Nf ⟨M1, Nu, rfl, hc, hk⟩;have MM := hk.size;have Ff := hid (yQ.out.trans hk);have xJ := hid (xH.out.same hk);have wK := hid (xr.out.same hk);have wX := hid (uo.out.same hk);have vy := hid (sM.out.same hk);have uD := hid (vB.out.same hk);have jX := hid (qm.out.same hk);have jS := hid (oP.out.same hk);clear hk yQ xH xr uo sM vB qm oP;have Ng := hid hc;clear hc;have jZ := (show Hid (OwnAn Nf (Q4 M1 A A) Nu) from Ng.out.own)
 go_wp2_with fail
 refine (uw.out Nf (Q4 KZ L L) M6 (Q4 L6 S S) NN (Q4 M1 A A) Nu jX.out.rd jS.out.rd jZ.out.rd OH.out.dat MW.out.dat Ng.out.dat).mono ?_;rintro e Aq jR;obtain ⟨zZ, Ak, Bd, Jw, zV, Ax, As, Hv, rfl, jd, eQ, ho, xl, hk⟩ := jR.at;clear jR;have Ob := hk.size;have EW := hid (Ff.out.trans hk);have s8 := hid (xJ.out.same hk);have uW := hid (wK.out.same hk);have vG := hid (wX.out.same hk);have vq := hid (vy.out.same hk);have sP := hid (uD.out.same hk);have yT := hid (jX.out.same hk);have zy := hid (jS.out.same hk);have zJ := hid (jZ.out.same hk);clear hk Ff xJ wK wX vy uD jX jS jZ;have GJ := hid (And.intro jd eQ);have Tm := hid xl;clear jd eQ xl;have tP := (show Hid (OwnPv Aq (.slice zZ Ak Bd) Jw (.slice zV Ax As) Hv) from ho);clear ho;clear yT;clear zy;clear zJ
 go_upto_region 39 with fail
 have hk := Uj Aq [V dc, V dp, .slice zZ Ak Bd, .slice zV Ax As] 33;have cA := Blk.newL Aq [V dc, V dp, .slice zZ Ak Bd, .slice zV Ax As] 33;generalize Aq.alloc (.cells #[V dc, V dp, .slice zZ Ak Bd, .slice zV Ax As] 33) = Mr at *;obtain ⟨BH, IY⟩ : ∃ x, Aq.heap.size = x := ⟨_, rfl⟩;have SZ : Aq.heap.size = BH := IY;rw [IY] at cA ⊢;have SF := cA.lt;have N1 := hk.size;have E8 := hid (EW.out.trans hk);have vQ := hid (s8.out.same hk);have pN := hid (uW.out.same hk);have fX := hid (vG.out.same hk);have tS := hid (vq.out.same hk);have uv := hid (sP.out.same hk);have p8 := hid (tP.out.same hk);clear hk EW s8 uW vG vq sP tP;have fU := (show Hid (Blk Mr BH 33 [V dc, V dp, .slice zZ Ak Bd, .slice zV Ax As]) from cA);clear cA IY;have Bm := fU.out.c0;have EJ := fU.out.c1;have Ek := fU.out.c2;have Ev := fU.out.c3;have QM := fU.out.lt;have jc := fX.out.c0;have jn := fX.out.c1;have jb := fX.out.c2;have jl := fX.out.c3;have CJ := fX.out.lt
 go_wp2_with fail
 refine (Yg dc dp zZ Ak Bd zV Ax As uF tT tK wY tZ ux Jw Gl Hv GH Mr (GJ.out.1.trans jQ.out.1.symm) (GJ.out.2.trans jQ.out.2.symm) (Ac.out Jw Hv GJ.out.1 GJ.out.2) p8.out pN.out).mono ?_;rintro e PH ⟨rfl, hk⟩;clear Bm EJ Ek Ev QM;clear jc jn jb jl CJ;have Lm := hk.size;have EG := hid (E8.out.trans hk);have xC := hid (vQ.out.same hk);have vI := hid (pN.out.same hk);have vC := hid (fX.out.same hk);have fV := hid (tS.out.same hk);have pk := hid (uv.out.same hk);have ul := hid (p8.out.same hk);have tR := hid (fU.out.same hk);clear hk E8 vQ pN fX tS uv p8 fU;have eL := fV.out.c0;have eG := fV.out.c1;have eO := fV.out.c2;have eH := fV.out.c3;have r7 := fV.out.lt
 go_wp2_with fail
 refine (YC dc dp pS oL qI pw nC o9 jy lm 1 PH (by omega) (Ac.out jy lm lP.out.1 lP.out.2) pk.out).mono ?_;rw [HC.out];rintro e S4 ⟨rfl, hk⟩;clear eL eG eO eH r7;have OG := hk.size;have Jd := hid (EG.out.trans hk);have L9 := hid (xC.out.same hk);have Oh := hid (vI.out.same hk);have Me := hid (vC.out.same hk);have Mp := hid (fV.out.same hk);have Mn := hid (pk.out.same hk);have KI := hid (ul.out.same hk);have Nk := hid (tR.out.same hk);clear hk EG xC vI vC fV pk ul tR;go_wp2;go_ret;exact ⟨rfl, Jd.out⟩
end Go.Proofs.YtljfcdkhicffcaaGreat
