import Derived.Test.YtljfcdkhicffcaaGreatG18
import Derived.Lib.MinMax
namespace Go.Proofs.YtljfcdkhicffcaaGreat
set_option maxRecDepth 100000
set_option maxHeartbeats 8000000
set_option linter.unusedVariables false
set_option linter.unusedSimpArgs false
open Go Go.RowKit Go.MapKept
def TabK (w w' : World) (B : Nat) (tt aO : List TE) : Prop := Kept (fun b => b = B ∨ ∃ e ∈ tt, e.blk = b) w w' ∧ ∀ e ∈ aO, (∃ e0 ∈ tt, e0.blk = e.blk) ∨ w.heap.size ≤ e.blk
theorem TabK.mid0 {pre post : List TE} {e e' : TE} (h : e'.blk = e.blk) : ∀ y ∈ pre ++ e' :: post, ∃ e0 ∈ pre ++ e :: post, e0.blk = y.blk := fun y hy => by
 rcases List.mem_append.1 hy with hy | hy
 ·exact ⟨y, List.mem_append_left _ hy, rfl⟩
 ·rcases List.mem_cons.1 hy with rfl | hy
  ·exact ⟨e, List.mem_append_right _ List.mem_cons_self, h.symm⟩
  ·exact ⟨y, List.mem_append_right _ (List.mem_cons_of_mem _ hy), rfl⟩
theorem TabK.mid {n : Nat} {pre post : List TE} {e e' : TE} (h : e'.blk = e.blk) : ∀ y ∈ pre ++ e' :: post, (∃ e0 ∈ pre ++ e :: post, e0.blk = y.blk) ∨ n ≤ y.blk := fun y hy => .inl (TabK.mid0 h y hy)
theorem TabK.step {w wr w5 : World} {B x : Nat} {tt aO t2 : List TE} (h : TabK w wr B tt aO) (hk : Kept (fun b => b = x) wr w5) (hx : x = B ∨ (∃ e ∈ aO, e.blk = x) ∨ w.heap.size ≤ x) (h2 : ∀ e ∈ t2, ∃ e0 ∈ aO, e0.blk = e.blk) : TabK w w5 B tt t2 := by
 refine ⟨h.1.next hk (fun i hi e => ?_), fun e he => ?_⟩
 ·subst e
  rcases hx with hx | ⟨e, he, hx⟩ | hx
  ·exact .inl hx
  ·rcases h.2 e he with ⟨e0, h0, h1⟩ | h1
   ·exact .inr ⟨e0, h0, h1.trans hx⟩
   ·omega
  ·omega
 ·obtain ⟨e0, h0, h1⟩ := h2 e he
  rcases h.2 e0 h0 with ⟨e3, h3, h4⟩ | h4
  ·exact .inl ⟨e3, h3, h4.trans h1⟩
  ·exact .inr (by omega)
theorem TabK.before {w wx w' : World} {B : Nat} {tt aO : List TE} (h : TabK wx w' B tt aO) (hk : Same w wx) : TabK w w' B tt aO :=
 ⟨(hk.mono (fun _ _ h => h.elim)).next h.1 (fun i hi e => e), fun e he => (h.2 e he).imp_right (fun h1 => by have := hk.size; omega)⟩
theorem jgc (w : World) (b0 B ck : Nat) (tt : List TE) (l : T3) (h : Tab w b0 B tt ck) :
  Calls Tryz.prog 178 #[.map (some B), .agg #[V l.1, V l.2.1, V l.2.2]] w fun e w' => e = .returned (.tuple #[]) ∧ ∃ aO, (∃ ck', Tab w' b0 B aO ck') ∧ (Uh aO).Perm (l :: (Uh tt).filter (fun x => !VT l x)) ∧ TabK w w' B tt aO ∧ (Full tt → Full aO) := by
 obtain ⟨x, y, z⟩ := l;obtain ⟨w1, df⟩ : ∃ w1, w1 = w.alloc (.cells #[V x, V y, V z] 160) := ⟨_, rfl⟩;have fm := (show Hid (Blk w1 w.heap.size 160 [V x, V y, V z]) from by rw [df]; exact Blk.newL w _ _);have ay := (show Hid (Same w w1) from by rw [df]; exact Uj w [V x, V y, V z] 160);have HT := hid (h.same ay.out);have Pe := h.out.lt;have nM := h.low;have Fx : Hid (∀ e ∈ tt, e.blk < w.heap.size) := fun e he => (h.inn e he).lt
 have bD : w1.heap.size = w.heap.size + 1 := by rw [df]; exact World.size_alloc _ _
 clear h;dsimp only;obtain ⟨c0, c1, c2⟩ := fm.out.all3
 rcases jaC x tt with hm | ⟨pre, e, post, rfl, pJ, cG⟩
 ·-- a new id
  have HM := hid hm;clear hm;have en := (fun w => run_eql_map_nil w 204 _ _ none Tryz.underlying204 : ∀ w, (binOp .eql 204 (.map none) (.map none)).run Tryz.prog w = .ok (.bool true) w);have r1 : (Instr.lookup 90 (.map (some B)) (V x) false).run Tryz.prog w1 = .ok (.map none) w1 := U2 Tryz.underlying90 Tryz.underlying2 HT.out.out (Ww HM.out) (Tryz.zeroValue204 _) false;have fJ := (show Hid (Same w1 (w1.alloc (.map #[] 0))) from kZ0.alloc _);have HN := (show Hid (MapB (w1.alloc (.map #[] 0)) (w.heap.size + 1) [] 0) from by have h := MapB.new w1; rw [bD] at h; exact h)
  have mk : (Instr.makeMap 204 none).run Tryz.prog w1 = .ok (.map (some (w.heap.size + 1))) (w1.alloc (.map #[] 0)) := by rw [← bD]; exact run_makeMap _ _
  obtain ⟨w3, gN⟩ : ∃ w3, w3 = setM (w1.alloc (.map #[] 0)) B (tt.map TE.kv ++ [(x, .map (some (w.heap.size + 1)), ck)]) (ck + 1) := ⟨_, rfl⟩
  have r2 : (Instr.mapUpdate 90 (.map (some B)) (V x) (.map (some (w.heap.size + 1)))).run Tryz.prog (w1.alloc (.map #[] 0)) = .ok () w3 := by
   rw [gN];exact Vf Tryz.underlying90 Tryz.underlying2 (HT.out.out.same fJ.out) (Ww HM.out)
  obtain ⟨a0, a1, a2⟩ := (fm.out.same fJ.out).all3;have Be := (show Hid (Kept (fun b => b = B) (w1.alloc (.map #[] 0)) w3) from by rw [gN]; exact Kept.setM _ _);have J5 := (show Hid (MapB w3 B (tt.map TE.kv ++ [(x, .map (some (w.heap.size + 1)), ck)]) (ck + 1)) from by rw [gN]; exact MapB.set (HT.out.out.same fJ.out));have zI := hid ((HT.out.same fJ.out).snoc HM.out HN.out (by omega) (fun e he h => by have := Fx.out e he; omega) (by omega) (by rw [List.map_append]; exact J5.out) Be.out);have bK := hid ((fm.out.same fJ.out).kept Be.out (fun e => by omega));have ap := hid (((ay.out.trans fJ.out).mono (fun _ _ h => h.elim)).next Be.out (fun i _ e => by rw [e]; first | done | exact nM));obtain ⟨d0, d1, d2⟩ := bK.out.all3;have r3 : (Instr.lookup 90 (.map (some B)) (V x) false).run Tryz.prog w3 = .ok (.map (some (w.heap.size + 1))) w3 := UI (pre := tt.map TE.kv) (post := []) (b := ck) Tryz.underlying90 Tryz.underlying2 J5.out (Ww HM.out) false;have HI := hid (zI.out.inn ⟨x, w.heap.size + 1, ck, [], 0⟩ (List.mem_append_right _ (List.mem_singleton.2 rfl)));obtain ⟨w4, dX⟩ : ∃ w4, w4 = setM w3 (w.heap.size + 1) ([] ++ [(y, V z, 0)]) (0 + 1) := ⟨_, rfl⟩
  have r4 : (Instr.mapUpdate 204 (.map (some (w.heap.size + 1))) (V y) (V z)).run Tryz.prog w3 = .ok () w4 := by
   rw [dX];exact Vf Tryz.underlying204 Tryz.underlying2 HI.out (fun _ h => by simp at h)
  have cf := (show Hid (Kept (fun b => b = w.heap.size + 1) w3 w4) from by rw [dX]; exact Kept.setM _ _);have qU := hid (zI.out.inner (w' := w4) (pre := tt) (post := []) (e := ⟨x, w.heap.size + 1, ck, [], 0⟩) (e' := ⟨x, w.heap.size + 1, ck, [(y, z, 0)], 0 + 1⟩) rfl rfl rfl (by rw [dX]; exact MapB.set HI.out) (KVok.snoc (KVok.nil 0) (fun _ h => by simp at h)) cf.out);have ax := hid (ap.out.next cf.out (fun i _ e => by omega))
  have fZ := (show Hid (TabK w w4 B tt (tt ++ [⟨x, w.heap.size + 1, ck, [(y, z, 0)], 0 + 1⟩])) from ⟨(((ay.out.trans fJ.out).mono (fun _ _ h => h.elim)).next Be.out (fun i _ e => .inl e)).next cf.out (fun i hi e => by omega), fun e he => by
   rcases List.mem_append.1 he with he | he
   ·exact .inl ⟨e, he, rfl⟩
   ·rw [List.mem_singleton.1 he]
    exact .inr (Nat.le_succ _)⟩)
  clear gN dX Be cf bK ap zI J5 HN fJ HT HI fm ay Fx bD;subst df
  go_enter Tryz.func178, Tryz.ntmps178
  go_wp2;refine bodyPost_end (results_none Tryz.results178 _ _ _) rfl ?_;exact ⟨rfl, _, ⟨_, qU.out⟩, jgN (l := (x, y, z)) HM.out _ _ _ _, fZ.out, fun h => h.snoc (by simp)⟩
 ·subst pJ
  have es := (fun w => run_eql_map_nil w 204 _ _ (some e.blk) Tryz.underlying204 : ∀ w, (binOp .eql 204 (.map (some e.blk)) (.map none)).run Tryz.prog w = .ok (.bool false) w);have r1 : (Instr.lookup 90 (.map (some B)) (V e.id) false).run Tryz.prog w1 = .ok (.map (some e.blk)) w1 := UI (pre := pre.map TE.kv) (post := post.map TE.kv) (b := e.st) Tryz.underlying90 Tryz.underlying2 (by have h := HT.out.out; rw [Zg] at h; exact h) (Ww cG) false;have HI := hid (HT.out.inn e (List.mem_append_right _ List.mem_cons_self));have HO := hid (HT.out.iok e (List.mem_append_right _ List.mem_cons_self));have cN := HT.out.lows e (List.mem_append_right _ List.mem_cons_self)
  rcases jaD y e.inn with hm | ⟨pr, m, s, po, dK, yI⟩
  ·obtain ⟨w4, dX⟩ : ∃ w4, w4 = setM w1 e.blk (e.inn.map ikv ++ [(y, V z, e.ck)]) (e.ck + 1) := ⟨_, rfl⟩
   have r4 : (Instr.mapUpdate 204 (.map (some e.blk)) (V y) (V z)).run Tryz.prog w1 = .ok () w4 := by
    rw [dX];exact Vf Tryz.underlying204 Tryz.underlying2 HI.out (XI hm)
   have cf := (show Hid (Kept (fun b => b = e.blk) w1 w4) from by rw [dX]; exact Kept.setM _ _);have qU := hid (HT.out.inner (w' := w4) (e' := { e with inn := e.inn ++ [(y, z, e.ck)], ck := e.ck + 1 }) rfl rfl rfl (by rw [List.map_append, dX]; exact MapB.set HI.out) (by rw [List.map_append]; exact HO.out.snoc (XI hm)) cf.out);have ax := (show Hid (Kept (fun b => b0 ≤ b) w w4) from (ay.out.mono (fun _ _ h => h.elim)).next cf.out (fun i _ e' => by rw [e']; exact cN));have HC := hid (jeF HT.out (l := (e.id, y, z)) rfl (ck' := e.ck + 1) (jga (l := (e.id, y, z)) rfl hm e.ck));have fZ := (show Hid (TabK w w4 B (pre ++ e :: post) (pre ++ { e with inn := e.inn ++ [(y, z, e.ck)], ck := e.ck + 1 } :: post)) from ⟨(ay.out.mono (fun _ _ h => h.elim)).next cf.out (fun i _ e' => .inr ⟨e, List.mem_append_right _ List.mem_cons_self, e'.symm⟩), TabK.mid rfl⟩);clear dX hm cf HT HI HO fm ay Fx bD cG;subst df
   go_enter Tryz.func178, Tryz.ntmps178
   go_wp2;refine bodyPost_end (results_none Tryz.results178 _ _ _) rfl ?_;exact ⟨rfl, _, ⟨_, qU.out⟩, HC.out, fZ.out, fun h => h.mid (by simp)⟩
  ·obtain ⟨w4, dX⟩ : ∃ w4, w4 = setM w1 e.blk (pr.map ikv ++ (y, V z, s) :: po.map ikv) e.ck := ⟨_, rfl⟩
   have r4 : (Instr.mapUpdate 204 (.map (some e.blk)) (V y) (V z)).run Tryz.prog w1 = .ok () w4 := by
    rw [dX];exact WJ (v := V m) Tryz.underlying204 Tryz.underlying2 (by have h := HI.out; rw [dK, WK] at h; exact h) (XI yI)
   have cf := (show Hid (Kept (fun b => b = e.blk) w1 w4) from by rw [dX]; exact Kept.setM _ _);have qU := hid (HT.out.inner (w' := w4) (e' := { e with inn := pr ++ (y, z, s) :: po, ck := e.ck }) rfl rfl rfl (by rw [WK, dX]; exact MapB.set HI.out) (by have h := HO.out; rw [dK, WK] at h; rw [WK]; exact h.store) cf.out);have ax := (show Hid (Kept (fun b => b0 ≤ b) w w4) from (ay.out.mono (fun _ _ h => h.elim)).next cf.out (fun i _ e' => by rw [e']; exact cN));have HC := hid (jeF HT.out (l := (e.id, y, z)) rfl (ck' := e.ck) (jgM (l := (e.id, y, z)) rfl dK HO.out));have fZ := (show Hid (TabK w w4 B (pre ++ e :: post) (pre ++ { e with inn := pr ++ (y, z, s) :: po, ck := e.ck } :: post)) from ⟨(ay.out.mono (fun _ _ h => h.elim)).next cf.out (fun i _ e' => .inr ⟨e, List.mem_append_right _ List.mem_cons_self, e'.symm⟩), TabK.mid rfl⟩);clear dX dK yI cf HT HI HO fm ay Fx bD cG;subst df
   go_enter Tryz.func178, Tryz.ntmps178
   go_wp2;refine bodyPost_end (results_none Tryz.results178 _ _ _) rfl ?_;exact ⟨rfl, _, ⟨_, qU.out⟩, HC.out, fZ.out, fun h => h.mid (by simp)⟩
theorem jfc (w : World) (b0 B ck : Nat) (tt : List TE) (txn : Int) (h : Tab w b0 B tt ck) :
  Calls Tryz.prog 174 #[.map (some B), V txn] w fun e w' => e = .returned (.tuple #[]) ∧ ∃ aO, (∃ ck', Tab w' b0 B aO ck') ∧ (Uh aO).Perm ((Uh tt).filter (Yr txn)) ∧ TabK w w' B tt aO ∧ (Full tt → Full aO) := by
 have HT := hid h;have r2 := run_range_map (P := Tryz.prog) (T := 90) Tryz.underlying90 h.out;have nM := h.low;have Pe := h.out.lt;clear h
 go_enter Tryz.func174, Tryz.ntmps174
 go_wp2_with fail
 obtain ⟨r, hr⟩ : ∃ r, w.heap.size = r := ⟨_, rfl⟩;have hit : IterB (w.alloc (.mapIter (some B) ck #[] ck)) r B ck #[] ck := hr ▸ IterB.new w B ck;have Ih := (show Hid (Tab (w.alloc (.mapIter (some B) ck #[] ck)) b0 B tt ck) from HT.out.same (kZ0.alloc _));have HS := (show Hid (TabK w (w.alloc (.mapIter (some B) ck #[] ck)) B tt tt) from ⟨kZ0.alloc _, fun e he => .inl ⟨e, he, rfl⟩⟩);have Tw := (show Hid (∀ e ∈ tt, e.blk < r) from fun e he => by have := (HT.out.inn e he).lt; omega)
 have Ay : w.heap.size ≤ r := by omega
 have Ty : B < r := by omega
 clear r2 HT;rw [hr];generalize (w.alloc (.mapIter (some B) ck #[] ck)) = w3 at hit Ih HS ⊢
 go_loopw [] (fun wr => ∃ (aO : List TE) (seen : Array Nat), Hid (IterB wr r B ck seen ck) ∧ Hid (Tab wr b0 B aO ck) ∧ Hid (FInv txn tt aO seen) ∧ Hid (TabK w wr B tt aO) ∧ Hid (Full tt → Full aO)) (fun wr => jbt wr r B)
 case atStart => exact ⟨tt, #[], hid hit, Ih, hid (FInv.start _ _), HS, hid id⟩
 case round =>
  obtain ⟨aO, seen, HI, HT, HF, HK, HU⟩ := hrel;clear hit Ih HS;have az := VF HI.out HT.out.out
  rcases Xa (P := Tryz.prog) (ty := 0) HI.out HT.out.out HT.out.ok.lt (Nat.le_refl _) with ⟨h0, dh⟩ | ⟨e, he, w1, hw, dh⟩
  ·have HD := hid (HF.out.done h0)
   clear HF h0;go_wp2;refine bodyPost_end (results_none Tryz.results174 _ _ _) rfl ?_;exact ⟨rfl, aO, ⟨ck, HT.out⟩, HD.out, HK.out, HU.out⟩
  ·obtain ⟨g1, g2, g3⟩ := XH (e := e) HI.out HT.out.out hw
   have xE := Wv (P := Tryz.prog) g1 g2 (mem_left he) HT.out.ok;obtain ⟨te, qF, rfl⟩ := List.mem_map.1 (mem_left he);have aG := Xb HT.out.ok.stamps he;have Rz : te.blk ≠ r := HI.out.ne (HT.out.inn te qF);have MO : B ≠ r := HI.out.ne HT.out.out;have iU := hid (HT.out.kept g3 MO (fun y hy e' => HI.out.ne (HT.out.inn y hy) e'));have G1 := hid g1;have G3 := (show Hid (TabK w _ B tt aO) from HK.out.step g3 (.inr (.inr (by omega))) (fun e he => ⟨e, he, rfl⟩));dsimp only [TE.kv] at dh xE G1 G3 aG iU;clear g1 g2 g3 hw he HI HT HK;generalize setIt w1 r B ck (seen.push te.st) ck = w4 at *;obtain ⟨pre, post, rfl⟩ := List.append_of_mem qF;have hI := iU.out.inn te qF;have hO := iU.out.iok te qF;have cN := iU.out.lows te qF;have Qu := iU.out.ne te qF
   -- the holders without the transaction
   obtain ⟨cZ, w5, Tf, gq, DL, NM, Ce⟩ : ∃ (cZ : List IE) (w5 : World), (Builtin.delete_ #[204, 2] 0 #[.map (some te.blk), V txn]).run Tryz.prog w4 = .ok (.tuple #[]) w5 ∧ w5 = setM w4 te.blk (cZ.map ikv) te.ck ∧ cZ.filter (fun x => decide (x.1 ≠ txn)) = te.inn.filter (fun x => decide (x.1 ≠ txn)) ∧ (∀ x ∈ cZ, x.1 ≠ txn) ∧ KVok (cZ.map ikv) te.ck := by
    rcases jaD txn te.inn with hm | ⟨pr, m, s, po, dK, yI⟩
    ·exact ⟨te.inn, _, XR Tryz.underlying204 Tryz.underlying2 hI (XI hm), rfl, rfl, hm, hO⟩
    ·have Kq : ∀ y ∈ pr ++ po, y.1 ≠ txn := IE.once (by rw [dK] at hO; exact hO)
     refine ⟨pr ++ po, _, VS (v := V m) (b := s) Tryz.underlying204 Tryz.underlying2 (pre := pr.map ikv) (post := po.map ikv) (by rw [dK, WK] at hI; exact hI) (XI yI), by rw [List.map_append], ?_, Kq, ?_⟩
     ·rw [dK, List.filter_append, List.filter_append, List.filter_cons_of_neg (by simp)]
     ·rw [dK, WK] at hO
      rw [List.map_append];exact hO.drop
   have aP : Kept (fun b => b = te.blk) w4 w5 := by rw [gq]; exact Kept.setM _ _
   have pV := hid (iU.out.inner (w' := w5) (e' := { te with inn := cZ, ck := te.ck }) rfl rfl rfl (by rw [gq]; exact MapB.set hI) Ce aP);have rE := hid (HF.out.turn iU.out (ck' := te.ck) DL NM);have fl := hid (G1.out.kept aP (fun e' => Rz e'.symm));have aH := (show Hid (TabK w w5 B tt (pre ++ { te with inn := cZ, ck := te.ck } :: post)) from G3.out.step aP (.inr (.inl ⟨te, qF, rfl⟩)) (fun e he => TabK.mid0 (e := te) (e' := { te with inn := cZ, ck := te.ck }) rfl e he));have GU := VF fl.out pV.out.out;have Og : MapB w5 te.blk (cZ.map ikv) te.ck := pV.out.inn _ (List.mem_append_right _ List.mem_cons_self);have dW := run_len_map (P := Tryz.prog) (T := 204) (ty := 3) Og Tryz.underlying204;rw [List.length_map] at dW;rw [Zg] at GU aG az;dsimp only at GU;clear gq DL NM Ce aP Og hI hO HF iU G1 G3
   cases cZ with
   | nil =>
    obtain ⟨w6, l3⟩ : ∃ w6, w6 = setM w5 B ((pre ++ post).map TE.kv) ck := ⟨_, rfl⟩
    have Tx : (Builtin.delete_ #[90, 2] 0 #[.map (some B), V te.id]).run Tryz.prog w5 = .ok (.tuple #[]) w6 := by
     rw [l3, List.map_append];exact VS (v := .map (some te.blk)) (b := te.st) Tryz.underlying90 Tryz.underlying2 (by have h := pV.out.out; rw [Zg] at h; exact h) (Ww (fun y hy => pV.out.once y (List.mem_append_left _ hy)))
    have aN : Kept (fun b => b = B) w5 w6 := by rw [l3]; exact Kept.setM _ _
    have zD := hid (pV.out.drop (w' := w6) (by rw [l3]; exact MapB.set pV.out.out) aN);have yx := hid (rE.out.drop rfl);have qP := hid (fl.out.kept aN (fun e' => MO e'.symm));have bI := (show Hid (TabK w w6 B tt (pre ++ post)) from aH.out.step aN (.inl rfl) (fun e he => ⟨e, (List.Sublist.append_left (List.sublist_cons_self _ _) _).subset he, rfl⟩));have Rr := VF qP.out zD.out.out;have GQ := jcJ (pre.map TE.kv) (post.map TE.kv) (te.id, .map (some te.blk), te.st) seen;dsimp only at GQ;rw [List.map_append, ← GQ] at Rr;clear l3 aN pV rE fl aH GU GQ
    go_wp2_with fail
    refine ⟨⟨pre ++ post, seen.push te.st, qP, zD, yx, bI, hid (fun h y hy => HU.out h y ((List.Sublist.append_left (List.sublist_cons_self _ _) _).subset hy))⟩, by omega⟩
   | cons a l =>
    have bl : ¬ (((a :: l).length : Nat) : Int) = 0 := by simp; omega
    generalize (a :: l).length = q at dW bl
    go_wp2_with fail
    refine ⟨⟨_, seen.push te.st, fl, pV, rE, aH, hid (fun h => (HU.out h).mid (by simp))⟩, by omega⟩
def Wd (ls : List T3) (l : T3) : Int :=
 if VW l then 2 else if Uf l.2.1 l.1 ls = 0 ∧ 4096 ≤ ls.length then 2 else if WT (T9 l.2.1 l.1 0 ls) l.2.2 = false then 1 else 0
def jcK (ls : List T3) (l : T3) : T3 := (l.1, l.2.1, if l.2.2 < Uf l.2.1 l.1 ls then Uf l.2.1 l.1 ls else l.2.2)
theorem jdT {ls : List T3} (hg : GoodL ls) (txn id aw : Int) : VI ls txn id aw = if Wd ls (id, txn, aw) = 0 then (0, flat3 (Vk (jcK ls (id, txn, aw)) false ls)) else (Wd ls (id, txn, aw), []) := by
 have h0 : Ve ls = 0 := (Wz _).2 hg
 have hm : XP ls txn id = Uf txn id ls := by unfold XP; rw [if_pos h0]
 have ho : U5 ls txn id = T9 txn id 0 ls := by unfold U5; rw [if_pos h0]
 obtain ⟨g1, g2, g3⟩ := U1 txn id ls 0
 have hb : 0 ≤ T9 txn id 0 ls ∧ T9 txn id 0 ls ≤ 2 := by
  refine ⟨g1, ?_⟩
  rcases g3 with g3 | ⟨l, hl, _, _, h4⟩
  ·omega
  ·have := (hg.fine l hl).2.2.2
   omega
 have az := hg.len;have Ip : VW (id, txn, aw) = false → 1 ≤ aw ∧ aw ≤ 2 := fun h => ((jaz _).1 h).2.2
 cases bQ : VW (id, txn, aw) with
 | true =>
  have hC : Wd ls (id, txn, aw) = 2 := by unfold Wd; rw [if_pos bQ]
  have hP : VI ls txn id aw = (2, []) := by
   unfold VI;refine if_neg ?_;rintro ⟨_, h1, h2, h3⟩;unfold VW at bQ;dsimp only at bQ;rw [h1, h2, h3] at bQ;exact absurd bQ (by decide)
  rw [hP, hC, if_neg (by decide)]
 | false =>
  have iZ := Ip bQ
  have h4 : inB id 0 511 = true ∧ inB txn 1 2147483647 = true ∧ inB aw 1 2 = true := by
   unfold VW at bQ;simp only [Bool.or_eq_false_iff, Bool.not_eq_false'] at bQ;exact ⟨bQ.1.1, bQ.1.2, bQ.2⟩
  have QJ : Wd ls (id, txn, aw) = if Uf txn id ls = 0 ∧ 4096 ≤ ls.length then 2 else if WT (T9 txn id 0 ls) aw = false then 1 else 0 := by
   unfold Wd;rw [bQ];rfl
  have QE : VI ls txn id aw = if Uf txn id ls = 0 ∧ ls.length = 4096 then (2, []) else if T9 txn id 0 ls = 2 ∨ ¬ T9 txn id 0 ls = 0 ∧ aw = 2 then (1, []) else (0, flat3 (Vk (jcK ls (id, txn, aw)) false ls)) := by
   unfold VI jcK;rw [if_pos ⟨h0, h4.1, h4.2.1, h4.2.2⟩, hm, ho]
  rw [QJ, QE]
  by_cases h5 : Uf txn id ls = 0 ∧ ls.length = 4096
  ·have Em : Uf txn id ls = 0 ∧ 4096 ≤ ls.length := ⟨h5.1, by omega⟩
   simp only [if_pos h5, if_pos Em];rw [if_neg (by decide)]
  ·have Em : ¬ (Uf txn id ls = 0 ∧ 4096 ≤ ls.length) := fun h => h5 ⟨h.1, by omega⟩
   simp only [if_neg h5, if_neg Em]
   by_cases h6 : T9 txn id 0 ls = 2 ∨ ¬ T9 txn id 0 ls = 0 ∧ aw = 2
   ·have h7 : WT (T9 txn id 0 ls) aw = false := by
     unfold WT;simp only [Bool.or_eq_false_iff, Bool.and_eq_false_iff, decide_eq_false_iff_not];omega
    simp only [if_pos h6, if_pos h7];rw [if_neg (by decide)]
   ·have h7 : ¬ WT (T9 txn id 0 ls) aw = false := by
     unfold WT;simp only [Bool.or_eq_false_iff, Bool.and_eq_false_iff, decide_eq_false_iff_not];omega
    simp only [if_neg h6, if_neg h7, if_pos]
def jhF (w w' : World) (e : Ending) (b0 B : Nat) (tt : List TE) (ls : List T3) (l : T3) : Prop := e = .returned (V 0) ∧ ∃ aO, (∃ ck', Tab w' b0 B aO ck') ∧ (Uh aO).Perm (l :: ls.filter (fun x => !VT l x)) ∧ Full aO ∧ TabK w w' B tt aO
theorem jgd (w : World) (b0 B ck : Nat) (tt : List TE) (ls : List T3) (id txn aw : Int) (h : Tab w b0 B tt ck) (hp : (Uh tt).Perm ls) (hg : GoodL ls) (hf : Full tt) (hA : Wd ls (id, txn, aw) = 0) :
  Calls Tryz.prog 157 #[.map (some B), .agg #[V id, V txn, V aw]] w fun e w' => jhF w w' e b0 B tt ls (jcK ls (id, txn, aw)) := by
 have ao := hid (Uj w [V id, V txn, V aw] 160);have bF := (show Hid (Blk (w.alloc (.cells #[V id, V txn, V aw] 160)) w.heap.size 160 [V id, V txn, V aw]) from Blk.newL w [V id, V txn, V aw] 160);obtain ⟨e0, e1, e2⟩ := bF.out.all3;have kw := ja7 (id, txn, aw) (w.alloc (.cells #[V id, V txn, V aw] 160));have km := fun wx (hx : Same w wx) => je8 wx b0 B ck tt ls txn id (h.same hx) hp hg.rise
 have kc := fun wx (hx : Same w wx) => jdS wx b0 B ck tt (h.same hx) (by have := hp.length_eq; have := hg.len; omega)
 rw [hp.length_eq] at kc;have ko := fun wx (hx : Same w wx) => Yd wx b0 B ck tt ls txn id (h.same hx) hp (fun l hl => (hg.fine l hl).2.2.1);have qz := Zf (T9 txn id 0 ls) aw;have kp := fun (z : Int) wx (hx : Same w wx) => jgc wx b0 B ck tt (id, txn, z) (h.same hx);have HC := hid hp;have HF := hid hf
 have nM : b0 < w.heap.size := by have := h.out.lt; have := h.low; omega
 have Fw := hg.len;clear h hp hg hf;dsimp only at kw kp;obtain ⟨Q, hQ⟩ : ∃ Q, jcK ls (id, txn, aw) = Q := ⟨_, rfl⟩;rw [hQ];unfold Wd at hA;unfold jcK at hQ;dsimp only at hA hQ;have HQ := hid hQ;clear hQ;obtain ⟨held, oI⟩ : ∃ held, Uf txn id ls = held := ⟨_, rfl⟩;rw [oI] at hA km;rw [oI] at HQ;obtain ⟨jL, E2⟩ : ∃ jL, T9 txn id 0 ls = jL := ⟨_, rfl⟩;rw [E2] at hA ko qz;obtain ⟨len, az⟩ : ∃ len, ls.length = len := ⟨_, rfl⟩;rw [az] at hA kc Fw;clear oI E2 az
 cases f1 : VW (id, txn, aw) with
 | true =>
  rw [f1, if_pos rfl] at hA;exact absurd hA (by decide)
 | false =>
  rw [f1] at kw hA;rw [if_neg (by simp)] at hA
  by_cases h0 : held = 0
  ·subst h0
   by_cases hl : 4096 ≤ len
   ·rw [if_pos ⟨rfl, hl⟩] at hA
    exact absurd hA (by decide)
   ·rw [if_neg (fun h => hl h.2)] at hA
    cases f2 : WT jL aw with
    | false =>
     rw [f2, if_pos rfl] at hA;exact absurd hA (by decide)
    | true =>
     rw [f2] at hA qz;rw [if_neg (by simp)] at hA;clear hA
     go_enter Tryz.func157, Tryz.ntmps157
     go_wp2_with fail
     refine kw.mono ?_;rintro e w2 ⟨rfl, ae⟩;have ap := hid (ao.out.trans ae);have bK := hid (bF.out.same ae);have c0 := bK.out.cell 0;have c1 := bK.out.cell 1;have c2 := bK.out.cell 2;clear kw ae
     go_wp2_with fail
     refine (km _ ap.out).mono ?_;rintro e QY ⟨rfl, ae⟩;have zL := ae.symm;subst zL;clear ae;clear km
     go_wp2_with fail
     refine (kc _ ap.out).mono ?_;rintro e w3 ⟨rfl, ar⟩;have ax := hid (ap.out.trans ar);have bX := hid (bK.out.same ar);clear kc ar c0 c1 c2 bK ap
     go_wp2_with fail
     let Y1 : World → Prop := fun wx : World => wx.cell? ⟨w.heap.size, 0, none⟩ = some (V id) ∧ wx.cell? ⟨w.heap.size, 0 + 1, none⟩ = some (V txn) ∧ wx.cell? ⟨w.heap.size, 0 + 2, none⟩ = some (V aw)
     have hS : Y1 w3.drew := by exact ⟨bX.out.drew.cell 0, bX.out.drew.cell 1, bX.out.drew.cell 2⟩
     refine TT Y1 99 10 rfl (by kernel_rfl) ?_;refine UE 0 21 (v := ?vq9) ?hyq9 hS ?_
     case hyq9 => (intro w dO; (try dsimp (config := { zetaDelta := true }) only at dO); go_simp; (try with_reducible rfl))
     try simp only [Act.put, sA, s0, sS]
     refine UE 1 22 (v := ?vq10) ?hyq10 hS ?_
     case hyq10 => (intro w dO; (try dsimp (config := { zetaDelta := true }) only at dO); go_simp; (try with_reducible rfl))
     try simp only [Act.put, sA, s0, sS]
     refine UE 2 23 (v := ?vq11) ?hyq11 hS ?_
     case hyq11 => (intro w dO; (try dsimp (config := { zetaDelta := true }) only at dO); go_simp; (try with_reducible rfl))
     try simp only [Act.put, sA, s0, sS]
     refine UE 3 24 (v := ?vq12) ?hyq12 hS ?_
     case hyq12 => (intro w dO; (try dsimp (config := { zetaDelta := true }) only at dO); go_simp; (try with_reducible rfl))
     try simp only [Act.put, sA, s0, sS]
     refine UE 4 25 (v := ?vq13) ?hyq13 hS ?_
     case hyq13 => (intro w dO; (try dsimp (config := { zetaDelta := true }) only at dO); go_simp; (try with_reducible rfl))
     try simp only [Act.put, sA, s0, sS]
     refine UE 6 27 (v := ?vq14) ?hyq14 hS ?_
     case hyq14 => (intro w dO; (try dsimp (config := { zetaDelta := true }) only at dO); go_simp; (try with_reducible rfl))
     try simp only [Act.put, sA, s0, sS]
     refine UE 7 28 (v := ?vq15) ?hyq15 hS ?_
     case hyq15 => (intro w dO; (try dsimp (config := { zetaDelta := true }) only at dO); go_simp; (try with_reducible rfl))
     try simp only [Act.put, sA, s0, sS]
     refine o1Q 5 (fun K hK => ?_);go_simp;refine (ko _ (ax.out.drew)).mono ?_;rintro e w4 ⟨rfl, aM⟩;have aR := hid (ax.out.drew.trans aM);have b4 := bX.out.drew.same aM;clear aM
     have hS : Y1 w4 := by exact ⟨b4.cell 0, b4.cell 1, b4.cell 2⟩
     refine hK.out _ _ (fun _ => hS) ?_;clear hK K
     try simp only [Act.put, sA, s0, sS]
     refine o1Q 8 (fun K hK => ?_);go_simp;refine (qz _).mono ?_;rintro e w5 ⟨rfl, gq⟩;have xS := gq.symm;subst xS;clear gq
     have hS : Y1 w4 := by exact ⟨b4.cell 0, b4.cell 1, b4.cell 2⟩
     refine hK.out _ _ (fun _ => hS) ?_;clear hK K
     try simp only [Act.put, sA, s0, sS]
     refine UE 9 30 (v := ?vq16) ?hyq16 hS ?_
     case hyq16 => (intro w dO; (try dsimp (config := { zetaDelta := true }) only at dO); go_simp; (try with_reducible rfl))
     try simp only [Act.put, sA, s0, sS]
     refine TS (by kernel_rfl) ?_;have d0 := b4.cell 0;have d1 := b4.cell 1;have d2 := b4.cell 2;have fr := b4.frozen;have lr := b4.lt
     have vK := (show Hid (((id, txn, max aw 0) : T3) = Q) from by
      unfold Hid;rw [← HQ.out]
      congr 2
      (try split) <;> omega)
     have aH := (show Hid (Same w (w4.setCell ⟨w.heap.size, 2, none⟩ (V (max aw 0)))) from aR.out.setCell (.inl (Nat.le_refl _)) _);have D9 := kp (max aw 0) _ aH.out
     go_wp2_with fail
     refine D9.mono ?_;rintro e w6 ⟨rfl, aO, nK, cr, aN, jh⟩;have bI := hid (aN.before aH.out);have HX := (show Hid (∃ aO, (∃ ck', Tab w6 b0 B aO ck') ∧ (Uh aO).Perm (Q :: ls.filter (fun x => !VT Q x)) ∧ Full aO ∧ TabK w w6 B tt aO) from ⟨aO, nK, by rw [← vK.out]; exact cr.trans ((HC.out.filter _).cons _), jh HF.out, bI.out⟩);clear D9 nK cr aN jh kp;go_wp2;go_ret;exact ⟨rfl, HX.out⟩
  ·rw [if_neg (fun h => h0 h.1)] at hA
   cases f2 : WT jL aw with
   | false =>
    rw [f2, if_pos rfl] at hA;exact absurd hA (by decide)
   | true =>
    rw [f2] at hA qz;rw [if_neg (by simp)] at hA;clear hA
    go_enter Tryz.func157, Tryz.ntmps157
    go_wp2_with fail
    refine kw.mono ?_;rintro e w2 ⟨rfl, ae⟩;have ap := hid (ao.out.trans ae);have bK := hid (bF.out.same ae);have c0 := bK.out.cell 0;have c1 := bK.out.cell 1;have c2 := bK.out.cell 2;clear kw ae
    go_wp2_with fail
    refine (km _ ap.out).mono ?_;rintro e QY ⟨rfl, ae⟩;have zL := ae.symm;subst zL;clear ae;clear km;clear kc
    go_wp2_with fail
    let Y2 : World → Prop := fun wx : World => wx.cell? ⟨w.heap.size, 0, none⟩ = some (V id) ∧ wx.cell? ⟨w.heap.size, 0 + 1, none⟩ = some (V txn) ∧ wx.cell? ⟨w.heap.size, 0 + 2, none⟩ = some (V aw)
    have hS : Y2 w2.drew := by exact ⟨bK.out.drew.cell 0, bK.out.drew.cell 1, bK.out.drew.cell 2⟩
    refine TT Y2 99 10 rfl (by kernel_rfl) ?_;refine UE 0 21 (v := ?vq25) ?hyq25 hS ?_
    case hyq25 => (intro w dO; (try dsimp (config := { zetaDelta := true }) only at dO); go_simp; (try with_reducible rfl))
    try simp only [Act.put, sA, s0, sS]
    refine UE 1 22 (v := ?vq26) ?hyq26 hS ?_
    case hyq26 => (intro w dO; (try dsimp (config := { zetaDelta := true }) only at dO); go_simp; (try with_reducible rfl))
    try simp only [Act.put, sA, s0, sS]
    refine UE 2 23 (v := ?vq27) ?hyq27 hS ?_
    case hyq27 => (intro w dO; (try dsimp (config := { zetaDelta := true }) only at dO); go_simp; (try with_reducible rfl))
    try simp only [Act.put, sA, s0, sS]
    refine UE 3 24 (v := ?vq28) ?hyq28 hS ?_
    case hyq28 => (intro w dO; (try dsimp (config := { zetaDelta := true }) only at dO); go_simp; (try with_reducible rfl))
    try simp only [Act.put, sA, s0, sS]
    refine UE 4 25 (v := ?vq29) ?hyq29 hS ?_
    case hyq29 => (intro w dO; (try dsimp (config := { zetaDelta := true }) only at dO); go_simp; (try with_reducible rfl))
    try simp only [Act.put, sA, s0, sS]
    refine UE 6 27 (v := ?vq30) ?hyq30 hS ?_
    case hyq30 => (intro w dO; (try dsimp (config := { zetaDelta := true }) only at dO); go_simp; (try with_reducible rfl))
    try simp only [Act.put, sA, s0, sS]
    refine UE 7 28 (v := ?vq31) ?hyq31 hS ?_
    case hyq31 => (intro w dO; (try dsimp (config := { zetaDelta := true }) only at dO); go_simp; (try with_reducible rfl))
    try simp only [Act.put, sA, s0, sS]
    refine o1Q 5 (fun K hK => ?_);go_simp;refine (ko _ (ap.out.drew)).mono ?_;rintro e w4 ⟨rfl, aM⟩;have aR := hid (ap.out.drew.trans aM);have b4 := bK.out.drew.same aM;clear aM
    have hS : Y2 w4 := by exact ⟨b4.cell 0, b4.cell 1, b4.cell 2⟩
    refine hK.out _ _ (fun _ => hS) ?_;clear hK K
    try simp only [Act.put, sA, s0, sS]
    refine o1Q 8 (fun K hK => ?_);go_simp;refine (qz _).mono ?_;rintro e w5 ⟨rfl, gq⟩;have xS := gq.symm;subst xS;clear gq
    have hS : Y2 w4 := by exact ⟨b4.cell 0, b4.cell 1, b4.cell 2⟩
    refine hK.out _ _ (fun _ => hS) ?_;clear hK K
    try simp only [Act.put, sA, s0, sS]
    refine UE 9 30 (v := ?vq32) ?hyq32 hS ?_
    case hyq32 => (intro w dO; (try dsimp (config := { zetaDelta := true }) only at dO); go_simp; (try with_reducible rfl))
    try simp only [Act.put, sA, s0, sS]
    refine TS (by kernel_rfl) ?_;have d0 := b4.cell 0;have d1 := b4.cell 1;have d2 := b4.cell 2;have fr := b4.frozen;have lr := b4.lt
    have vK := (show Hid (((id, txn, max aw held) : T3) = Q) from by
     unfold Hid;rw [← HQ.out]
     congr 2
     (try split) <;> omega)
    have aH := (show Hid (Same w (w4.setCell ⟨w.heap.size, 2, none⟩ (V (max aw held)))) from aR.out.setCell (.inl (Nat.le_refl _)) _);have D9 := kp (max aw held) _ aH.out
    go_wp2_with fail
    refine D9.mono ?_;rintro e w6 ⟨rfl, aO, nK, cr, aN, jh⟩;have bI := hid (aN.before aH.out);have HX := (show Hid (∃ aO, (∃ ck', Tab w6 b0 B aO ck') ∧ (Uh aO).Perm (Q :: ls.filter (fun x => !VT Q x)) ∧ Full aO ∧ TabK w w6 B tt aO) from ⟨aO, nK, by rw [← vK.out]; exact cr.trans ((HC.out.filter _).cons _), jh HF.out, bI.out⟩);clear D9 nK cr aN jh kp;go_wp2;go_ret;exact ⟨rfl, HX.out⟩
structure ERc where
 id : Int
 v : Value
 bs : List Int
 st : Nat
def ERc.kv (e : ERc) : KV := (e.id, .agg #[.bool true, e.v], e.st)
def ERc.dat (e : ERc) : RcD := (e.id, e.bs)
structure ETp where
 id : Int
 g : Nat
 v : Value
 ps : List EWr
 st : Nat
def ETp.kv (t : ETp) : KV := (t.id, .pointer (some ⟨t.g, 0, none⟩), t.st)
def ETp.dat (t : ETp) : Int × List WrD := (t.id, TU t.ps)
structure PmX where
 C : Nat
 ck : Nat
 ce : List ERc
 T : Nat
 tk : Nat
 te : List ETp
 B : Nat
 bk : Nat
 tt : List TE
 cv : Value
 cs : List EWr
 up : Bool
 lt : Int
theorem RdL.onL {lo : Nat} {w w' : World} {v : Value} {bs : List Int} (h : RdL lo w v bs) (hk : Kept (fun b => lo ≤ b) w w') : RdL lo w' v bs := fun w2 h2 => h w2 (hk.trans h2)
structure OwP (lo : Nat) (w : World) (v : Value) (ps : List EWr) : Prop where
 row : w.ownsRow 0 112 3 v ps.length (kWr.all ps)
 data : ∀ p ∈ ps, RdL lo w p.v p.bs
theorem OwP.kept {R : Nat → Prop} {lo : Nat} {w w' : World} {v : Value} {ps : List EWr} (h : OwP lo w v ps) (hk : Kept R w w') (hR : ∀ b, v.ownBlock = some b → ¬ R b) (hL : Kept (fun b => lo ≤ b) w w') : OwP lo w' v ps := ⟨hk.owns h.row hR, fun p hp => (h.data p hp).onL hL⟩
theorem OwP.nil (lo : Nat) (w : World) : OwP lo w (V0) [] := ⟨⟨by simp [RowK.all], .inl ⟨rfl, rfl⟩⟩, fun p hp => by simp at hp⟩
theorem OwP.form {lo : Nat} {w : World} {v : Value} {ps : List EWr} (h : OwP lo w v ps) : ∃ a c, v = .slice a ps.length c := by
 obtain ⟨_, h⟩ := h.row
 rcases h with ⟨rfl, h1⟩ | ⟨g, c, cs, rfl, _⟩
 ·exact ⟨_, _, by rw [h1]⟩
 ·exact ⟨_, _, rfl⟩
theorem OwP.rd {lo : Nat} {w : World} {v : Value} {ps : List EWr} (h : OwP lo w v ps) : RdR kWr w v ps := by
 refine ⟨?_, ?_, fun p hp => (h.data p hp).here⟩
 ·rcases h.row.2 with ⟨_, h1⟩ | ⟨g, cap, cur, _, _, _, hc, hm, _⟩
  ·rw [h1]; exact Nat.zero_le _
  ·exact Nat.le_trans hc hm
 ·have aX := h.row
  rcases h.row.2 with ⟨rfl, h1⟩ | ⟨g, cap, cur, rfl, _⟩
  ·exact .inl ⟨List.length_eq_zero_iff.1 h1, _, _, rfl⟩
  ·exact .inr ⟨g, 0, cap, rfl, fun j i hj hi => by rw [Nat.zero_add]; exact VE (K := kWr) aX j i hj hi⟩
def PmC (gp gf gl : Int) (x : PmX) : List Value := [V gp, V gf, V gl, .bool x.up, V x.lt, .map (some x.C), .map (some x.T), .map (some x.B), x.cv]
structure PmN (w : World) (lo : Nat) (x : PmX) : Prop where
 com : MapB w x.C (x.ce.map ERc.kv) x.ck
 cok : KVok (x.ce.map ERc.kv) x.ck
 cd : ∀ e ∈ x.ce, RdL lo w e.v e.bs
 txn : MapB w x.T (x.te.map ETp.kv) x.tk
 tok : KVok (x.te.map ETp.kv) x.tk
 tb : ∀ t ∈ x.te, Blk w t.g 78 [V t.id, t.v]
 tg : (x.te.map ETp.g).Nodup
 tw : ∀ t ∈ x.te, OwP lo w t.v t.ps
 ta : (x.te.map ETp.v).Pairwise Apart
 lk : Tab w lo x.B x.tt x.bk
 full : Full x.tt
 cut : OwP lo w x.cv x.cs
 cT : x.C ≠ x.T
 cB : x.C ≠ x.B
 tB : x.T ≠ x.B
 ne : ∀ e ∈ x.tt, e.blk ≠ x.C ∧ e.blk ≠ x.T
 loC : lo ≤ x.C
 loT : lo ≤ x.T
 lot : ∀ t ∈ x.te, lo ≤ t.g ∧ ∀ b, t.v.ownBlock = some b → lo ≤ b
 ucv : x.up = true → x.cv = V0 ∧ x.cs = []
structure PmI (w : World) (lo M : Nat) (gp gf gl : Int) (x : PmX) : Prop where
 box : Blk w M 92 (PmC gp gf gl x)
 n : PmN w lo x
 loM : lo ≤ M
structure PmD (x : PmX) (st : PlS) : Prop where
 recs : (x.ce.map ERc.dat).Perm st.recs
 txns : (x.te.map ETp.dat).Perm st.txns
 locks : (Uh x.tt).Perm st.locks
 cut : TU x.cs = st.cut
 up : x.up = st.up
 lt : st.up = true → x.lt = st.told
def PmS (w : World) (lo M : Nat) (gp gf gl : Int) (st : PlS) : Prop := ∃ x, PmI w lo M gp gf gl x ∧ PmD x st
def Gp (o : Obj) : Prop := (∃ es ck, o = .map es ck) ∨ (∃ a b c d, o = .mapIter a b c d) ∨ ∃ cs, o = .cells cs 92 (0, 0) ∨ o = .cells cs 78 (0, 0) ∨ o = .cells cs 112 (0, 0)
theorem jhp {e : TypeId} (h1 : e ≠ 92) (h2 : e ≠ 78) (h3 : e ≠ 112) (cs : Array Value) : ¬ Gp (.cells cs e (0, 0)) := fun h => by
 rcases h with ⟨_, _, h⟩ | ⟨_, _, _, _, h⟩ | ⟨Az, h | h | h⟩
 ·cases h
 ·cases h
 ·injection h with _ h _; exact h1 h
 ·injection h with _ h _; exact h2 h
 ·injection h with _ h _; exact h3 h
def PmK (lo : Nat) (w w' : World) : Prop := KO Gp w w' ∧ Kept (fun b => lo ≤ b) w w'
theorem PmK.refl (lo : Nat) (w : World) : PmK lo w w := ⟨KO.refl _ _, kZ0⟩
theorem PmK.same {lo : Nat} {w w' : World} (h : Same w w') : PmK lo w w' := ⟨KO.same h, h.mono (fun _ _ e => e.elim)⟩
theorem PmK.trans {lo : Nat} {w w1 w2 : World} (h : PmK lo w w1) (h2 : PmK lo w1 w2) : PmK lo w w2 := ⟨h.1.trans h2.1, h.2.trans h2.2⟩
theorem PmK.of {lo : Nat} {w w' : World} {R : Nat → Prop} (hk : Kept R w w') (hR : ∀ b, b < w.heap.size → R b → lo ≤ b ∧ ∃ o, w.heap[b]? = some o ∧ Gp o) : PmK lo w w' := ⟨hk.mono (fun b hb e => (hR b hb e).2), hk.mono (fun b hb e => (hR b hb e).1)⟩
theorem PmK.blk {lo : Nat} {w w' : World} {B : Nat} {e : TypeId} {xs : List Value} (hk : PmK lo w w') (h : Blk w B e xs) (h1 : e ≠ 92) (h2 : e ≠ 78) (h3 : e ≠ 112) : Blk w' B e xs := h.kept hk.1 (fun ⟨o, ho, hg⟩ => by
 unfold Blk at h;rw [h] at ho
 injection ho with ho
 subst ho
 exact jhp h1 h2 h3 _ hg)
theorem YR {w : World} {B C ck : Nat} {e : TypeId} {xs : List Value} {kv : List KV} (h : Blk w B e xs) (hm : MapB w C kv ck) : B ≠ C := fun e' => by
 subst e';unfold Blk at h;unfold MapB at hm;rw [h] at hm
 cases hm
theorem jhv {w : World} {B C : Nat} {e e' : TypeId} {xs ys : List Value} (h : Blk w B e xs) (hm : Blk w C e' ys) (bl : e ≠ e') : B ≠ C := fun h' => by
 subst h';unfold Blk at h hm;rw [h] at hm
 injection hm with hm
 injection hm with _ hm _
 exact bl hm
theorem jfd {w : World} {e : TypeId} {m n C ck : Nat} {v : Value} {xs : List Value} {kv : List KV} (h : w.ownsRow 0 e m v n xs) (hm : MapB w C kv ck) : ∀ b, v.ownBlock = some b → b ≠ C := fun b hb e' => by
 subst e';obtain ⟨cs, h1⟩ := UM h hb;unfold MapB at hm;rw [h1] at hm
 cases hm
section
variable {R : Nat → Prop} {w w' : World} {lo M : Nat} {gp gf gl : Int} {x : PmX}
theorem PmN.kept (h : PmN w lo x) (hk : Kept R w w') (hL : Kept (fun b => lo ≤ b) w w') (hC : ¬ R x.C) (hT : ¬ R x.T) (hB : ¬ R x.B) (hi : ∀ e ∈ x.tt, ¬ R e.blk) (hg : ∀ t ∈ x.te, ¬ R t.g ∧ ∀ b, t.v.ownBlock = some b → ¬ R b) (hv : ∀ b, x.cv.ownBlock = some b → ¬ R b) : PmN w' lo x :=
 ⟨h.com.kept hk hC, h.cok, fun e he => (h.cd e he).onL hL, h.txn.kept hk hT, h.tok, fun t ht => (h.tb t ht).kept hk (hg t ht).1, h.tg, fun t ht => (h.tw t ht).kept hk (hg t ht).2 hL, h.ta, h.lk.kept hk hB hi, h.full, h.cut.kept hk hv hL, h.cT, h.cB, h.tB, h.ne, h.loC, h.loT, h.lot, h.ucv⟩
theorem PmN.same (h : PmN w lo x) (hk : Same w w') : PmN w' lo x := h.kept hk (hk.mono (fun _ _ e => e.elim)) id id id (fun _ _ => id) (fun _ _ => ⟨id, fun _ _ => id⟩) (fun _ _ => id)
theorem PmI.same (h : PmI w lo M gp gf gl x) (hk : Same w w') : PmI w' lo M gp gf gl x := ⟨h.box.same hk, h.n.same hk, h.loM⟩
theorem PmN.other {e : TypeId} {ys : List Value} {Z : Nat} (h : PmN w lo x) (hb : Blk w Z e ys) (hZ : lo ≤ Z) (hk : Kept (fun b => b = Z) w w') (h1 : e ≠ 78) (h2 : e ≠ 112) : PmN w' lo x :=
 h.kept hk (hk.mono (fun b _ e => by rw [e]; exact hZ)) (fun e => YR hb h.com e.symm) (fun e => YR hb h.txn e.symm) (fun e => YR hb h.lk.out e.symm) (fun y hy e => YR hb (h.lk.inn y hy) e.symm)
  (fun t ht => ⟨fun e => jhv hb (h.tb t ht) h1 e.symm, fun b bw e => Un hb (h.tw t ht).row h2.symm b bw e⟩) (fun b bw e => Un hb h.cut.row h2.symm b bw e)
theorem jfe {ys : List Value} (hb : Blk w M 92 ys) (hM : lo ≤ M) (hk : Kept (fun b => b = M) w w') : PmK lo w w' := PmK.of hk (fun b _ e => by
 subst e
 exact ⟨hM, _, hb, .inr (.inr ⟨_, .inl rfl⟩)⟩)
theorem PmS.same {st : PlS} (h : PmS w lo M gp gf gl st) (hk : Same w w') : PmS w' lo M gp gf gl st := by
 obtain ⟨x, h1, h2⟩ := h;exact ⟨x, h1.same hk, h2⟩
theorem PmI.locks {aO : List TE} {bO : Nat} (h : PmI w lo M gp gf gl x) (hT : Tab w' lo x.B aO bO) (hF : Full aO) (hK : TabK w w' x.B x.tt aO) : PmI w' lo M gp gf gl { x with tt := aO, bk := bO } ∧ PmK lo w w' := by
 have hm : ∀ {b : Nat}, (b = x.B ∨ ∃ e ∈ x.tt, e.blk = b) → ∃ kv ck, MapB w b kv ck := fun {b} hb => by
  rcases hb with rfl | ⟨e, he, rfl⟩
  ·exact ⟨_, _, h.n.lk.out⟩
  ·exact ⟨_, _, h.n.lk.inn e he⟩
 have cN : ∀ {b : Nat}, (b = x.B ∨ ∃ e ∈ x.tt, e.blk = b) → lo ≤ b := fun {b} hb => by
  rcases hb with rfl | ⟨e, he, rfl⟩
  ·exact h.n.lk.low
  ·exact h.n.lk.lows e he
 have hL : Kept (fun b => lo ≤ b) w w' := hK.1.mono (fun b _ e => cN e);have n := h.n
 have hC : ¬ (x.C = x.B ∨ ∃ e ∈ x.tt, e.blk = x.C) := fun hh => by
  rcases hh with hh | ⟨e, he, hh⟩
  ·exact n.cB hh
  ·exact (n.ne e he).1 hh
 have O2 : ¬ (x.T = x.B ∨ ∃ e ∈ x.tt, e.blk = x.T) := fun hh => by
  rcases hh with hh | ⟨e, he, hh⟩
  ·exact n.tB hh
  ·exact (n.ne e he).2 hh
 have cA : ∀ {Z : Nat} {e : TypeId} {ys : List Value}, Blk w Z e ys → ¬ (Z = x.B ∨ ∃ e ∈ x.tt, e.blk = Z) := fun hb hh => by
  obtain ⟨kv, ck, hm⟩ := hm hh;exact YR hb hm rfl
 have Ay : ∀ {v : Value} {ps : List EWr}, OwP lo w v ps → ∀ b, v.ownBlock = some b → ¬ (b = x.B ∨ ∃ e ∈ x.tt, e.blk = b) := fun ho b hb hh => by
  obtain ⟨kv, ck, hm⟩ := hm hh;exact jfd ho.row hm b hb rfl
 refine ⟨⟨h.box.kept hK.1 (cA h.box), ⟨n.com.kept hK.1 hC, n.cok, fun e he => (n.cd e he).onL hL, n.txn.kept hK.1 O2, n.tok, fun t ht => (n.tb t ht).kept hK.1 (cA (n.tb t ht)), n.tg, fun t ht => (n.tw t ht).kept hK.1 (Ay (n.tw t ht)) hL, n.ta, hT, hF, n.cut.kept hK.1 (Ay n.cut) hL, n.cT, n.cB, n.tB, fun e he => ?_, n.loC, n.loT, n.lot, n.ucv⟩, h.loM⟩, PmK.of hK.1 (fun b hb hh => ?_)⟩
 ·rcases hK.2 e he with ⟨e0, h0, h1⟩ | h1
  ·rw [← h1]; exact n.ne e0 h0
  ·have h2 := n.com.lt
   have h3 := n.txn.lt;exact ⟨fun e => by rw [e] at h1; exact absurd h2 (Nat.not_lt.2 h1), fun e => by rw [e] at h1; exact absurd h3 (Nat.not_lt.2 h1)⟩
 ·obtain ⟨kv, ck, hm⟩ := hm hh
  exact ⟨cN hh, _, hm, .inl ⟨_, _, rfl⟩⟩
end
end Go.Proofs.YtljfcdkhicffcaaGreat
