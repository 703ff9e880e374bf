import Derived.Test.YtapdfgkbhaoelaaGreatDoorG29
namespace Go.Proofs.YtapdfgkbhaoelaaGreatDoor
set_option maxRecDepth 100000
set_option maxHeartbeats 16000000
set_option linter.unusedVariables false
set_option linter.unusedSimpArgs false
open Go.RowKit
theorem XD (lsn ep : Int) (x : StLogRecord) (w : World) (hL : IsI lsn) (hE : IsI ep) (hB : x.isB) (hn : x.szs ≤ 1073741824) (hv : StLogRecord.rd w x) : Calls Tryz.prog 16 #[Q1 lsn, Q1 ep, x.val] w fun e w' => ∃ a c, e = .returned (.slice a (VT lsn ep x.dat).length c) ∧ (∀ b, (Value.slice a (VT lsn ep x.dat).length c).ownBlock = some b → w.heap.size ≤ b) ∧ Own 0 5 .u8 w' (.slice a (VT lsn ep x.dat).length c) (VT lsn ep x.dat) ∧ Same w w' := by
 have HE := hid (fun wx (h : Same w wx) => Ua x wx hB hn (StLogRecord.rd.same hv h))
 by_cases hy : O9 x.dat = 0 ∧ (1 ≤ lsn ∧ lsn ≤ 1099511627776) ∧ (1 ≤ ep ∧ ep ≤ 4294967295)
 ·obtain ⟨NU, OL⟩ := Q5 hy.1
  have qv := Sk hB hy.1;rw [WZ hy];rw [P9 hy.1] at HE;have mh := hy.2;clear hy hB hn hv;generalize Pe x.dat = R at *;obtain ⟨kind, txn, prev, page, slot, ⟨bU, ⟨eS, ax, ay, aI⟩⟩, ⟨aU, ⟨eP, ao, al, aG⟩⟩, uN, nT, ⟨dI, aJ, ak, aK, bh⟩, ⟨dF, aM, aw, aH, bw⟩, ⟨eM, aF, aD, aL⟩⟩ := x;dsimp only [StLogRecord.val, StPageRecord.val, BS.v, FR.v] at HE ⊢;obtain ⟨⟨oI, je⟩, s7, Cm⟩ := mh;obtain ⟨i0, hi, b8, cE, cP⟩ := info_parts Tryz.infoByte';have aP := hid (Rv w [Q1 kind, Q1 txn, Q1 prev, Q1 page, Q1 slot, .bool bU, .slice ax aI.length ay, .bool aU, .slice ao aG.length al, Q1 uN, Q1 nT, .slice aJ ak aK, .slice aM aw aH, .slice aF aL.length aD] 28);have oW := hid (Sz (lsn := lsn) (ep := ep) qv);have cw := VJ lsn ep R;have mO := R6 0 (QB lsn ep R) (by omega) (by omega) oW.out
  have nZ : QB lsn ep R = (O5 lsn 8 ++ O5 ep 4) ++ R := by unfold QB; rw [show OW lsn 8 = O5 lsn 8 from Sl (n := 8) (by omega) (by omega) (by omega), show OW ep 4 = O5 ep 4 from Sl (n := 4) (by omega) (by omega) (by omega)]
  have qG := hid nZ;clear nZ;obtain ⟨N, hN⟩ : ∃ N : Nat, N = 20 + R.length := ⟨_, rfl⟩
  have CI : (20 : Int) + (R.length : Int) = (N : Int) := by omega
  have D2 : ¬ (R.length : Int) = 0 := by omega
  have Nq : N ≤ 5020 := by omega
  have Nw : 21 ≤ N := by omega
  have pL : frB lsn ep R = O5 (N : Int) 4 ++ (O5 (Pp 0 (QB lsn ep R)) 4 ++ (O5 lsn 8 ++ (O5 ep 4 ++ R))) := by unfold frB; rw [qG.out, CI, show OW (N : Int) 4 = O5 (N : Int) 4 from Sl (n := 4) (by omega) (by omega) (by omega), show OW (Pp 0 ((O5 lsn 8 ++ O5 ep 4) ++ R)) 4 = O5 (Pp 0 ((O5 lsn 8 ++ O5 ep 4) ++ R)) 4 from Sl (n := 4) (by omega) (by rw [← qG.out]; omega) (by rw [← qG.out]; omega), ← qG.out]; rw [show QB lsn ep R = (O5 lsn 8 ++ O5 ep 4) ++ R from qG.out]; simp only [List.append_assoc]
  have uq := hid pL;clear pL;have HN := hid hN;have Ha := hid CI;clear hN CI
  have q1 : ((R.length : Int) == 0) = false := by rw [beq_eq_false_iff_ne]; exact D2
  have q2 : decide (lsn < 1) = false := decide_eq_false (by omega);have q3 : decide (1099511627776 < lsn) = false := decide_eq_false (by omega);have q4 : decide (ep < 1) = false := decide_eq_false (by omega);have q5 : decide (4294967295 < ep) = false := decide_eq_false (by omega)
  go_enter Tryz.func16, Tryz.ntmps16
  go_wp2_with fail
  refine (HE.out _ aP.out).mono ?_;rintro e w1 ⟨a1, c1, rfl, hf, ho, hk⟩;have aN := hid (aP.out.trans hk);have dS : Hid (Own 0 5 .u8 w1 (.slice a1 R.length c1) (R)) := ho;clear hf ho hk;obtain ⟨g1, Lc, gl, _, Ad, _, _⟩ := dS.out.form.resolve_left (fun h => by have := h.2; rw [this] at D2; simp at D2)
  injection gl with ea en ec
  subst ea;subst ec
  go_wp2_with (at_make; go_loud (refine wpList_make_full _ rfl (.tmp 32) (.tmp 32) 22 rfl 0 5 i0 (.int .u8 0) 1 Tryz.underlying22 hi b8 cE .i64 .i64 _ _ N rfl rfl (by exact Ha.out) (by exact Ha.out) (by rw [cP]; omega) (by unfold maxLen; omega) (Nat.zero_le _) ?_); intro w2 ag qC; have cG : Hid (Own 0 5 .u8 w2 (.slice (some ⟨w1.heap.size, 0, none⟩) N N) (List.replicate N (0 : Int))) := Tc (by simpa using ag); have fW : Hid (Same w1 w2) := Kept.of_grown qC (fun k e => by cases e); clear ag qC)
  have eI : Hid (Blk w2 w1.heap.size 5 (vals .u8 (List.replicate 4 (0 : Int) ++ (List.replicate 4 (0 : Int) ++ (List.replicate 8 (0 : Int) ++ (List.replicate 4 (0 : Int) ++ List.replicate R.length (0 : Int))))))) := (by have h := Own.blk cG.out; rw [HN.out, show List.replicate (20 + R.length) (0 : Int) = List.replicate 4 (0 : Int) ++ (List.replicate 4 (0 : Int) ++ (List.replicate 8 (0 : Int) ++ (List.replicate 4 (0 : Int) ++ List.replicate R.length (0 : Int)))) from by simp only [List.replicate_append_replicate]; congr 1; omega] at h; exact h);have aO := hid (aN.out.trans fW.out);have Mz : Hid (Kept (fun b => b = w1.heap.size) w1 w2) := fW.out.mono (fun _ _ e => absurd e id);clear cG fW
  have NL : (4 : Int) ≤ (N : Int) := by omega
  have Mj : ¬ N = 4 := by omega
  have MI : ¬ N = 8 := by omega
  have OI : (8 : Int) ≤ (N : Int) := by omega
  have Kv : (16 : Int) ≤ (N : Int) := by omega
  have KF : (20 : Int) ≤ (N : Int) := by omega
  go_wp2_with fail
  refine (Qm w1.heap.size 0 4 N 5 _ ((N : Int)) _ eI.out (by rw [O1]; simp [OY]; try omega) (by omega) (by omega) (by omega)).mono ?_;rintro e w3 ⟨rfl, hb, hk⟩;have lU : Hid (Blk w3 w1.heap.size 5 (vals .u8 (O5 (N : Int) 4 ++ (List.replicate 4 (0 : Int) ++ (List.replicate 8 (0 : Int) ++ (List.replicate 4 (0 : Int) ++ List.replicate R.length (0 : Int))))))) := (by have h := hb; rw [show List.replicate 4 (0 : Int) ++ (List.replicate 4 (0 : Int) ++ (List.replicate 8 (0 : Int) ++ (List.replicate 4 (0 : Int) ++ List.replicate R.length (0 : Int)))) = ([]) ++ ((List.replicate 4 (0 : Int)) ++ (List.replicate 4 (0 : Int) ++ (List.replicate 8 (0 : Int) ++ (List.replicate 4 (0 : Int) ++ List.replicate R.length (0 : Int))))) from by simp only [List.append_assoc, List.nil_append, List.append_nil], jcO _ ([]) (List.replicate 4 (0 : Int)) (List.replicate 4 (0 : Int) ++ (List.replicate 8 (0 : Int) ++ (List.replicate 4 (0 : Int) ++ List.replicate R.length (0 : Int)))) (O5 (N : Int) 4) 0 (by simp [OY]) (by simp [OY])] at h; rw [show O5 (N : Int) 4 ++ (List.replicate 4 (0 : Int) ++ (List.replicate 8 (0 : Int) ++ (List.replicate 4 (0 : Int) ++ List.replicate R.length (0 : Int)))) = ([]) ++ ((O5 (N : Int) 4) ++ (List.replicate 4 (0 : Int) ++ (List.replicate 8 (0 : Int) ++ (List.replicate 4 (0 : Int) ++ List.replicate R.length (0 : Int))))) from by simp only [List.append_assoc, List.nil_append, List.append_nil]]; exact h);have bo := hid (aO.out.next hk (fun i hi e => by have := aN.out.size; omega));have K1 := hid (Mz.out.next hk (fun i hi e => e));clear hb hk
  go_wp2_with fail
  refine (Qm w1.heap.size 8 8 (N - 8) 5 _ (lsn) _ lU.out (by rw [O1]; simp [OY]; try omega) (by omega) (by omega) (by omega)).mono ?_;rintro e w4 ⟨rfl, hb, hk⟩;have oU : Hid (Blk w4 w1.heap.size 5 (vals .u8 (O5 (N : Int) 4 ++ (List.replicate 4 (0 : Int) ++ (O5 lsn 8 ++ (List.replicate 4 (0 : Int) ++ List.replicate R.length (0 : Int))))))) := (by have h := hb; rw [show O5 (N : Int) 4 ++ (List.replicate 4 (0 : Int) ++ (List.replicate 8 (0 : Int) ++ (List.replicate 4 (0 : Int) ++ List.replicate R.length (0 : Int)))) = (O5 (N : Int) 4 ++ List.replicate 4 (0 : Int)) ++ ((List.replicate 8 (0 : Int)) ++ (List.replicate 4 (0 : Int) ++ List.replicate R.length (0 : Int))) from by simp only [List.append_assoc, List.nil_append, List.append_nil], jcO _ (O5 (N : Int) 4 ++ List.replicate 4 (0 : Int)) (List.replicate 8 (0 : Int)) (List.replicate 4 (0 : Int) ++ List.replicate R.length (0 : Int)) (O5 lsn 8) 8 (by simp [OY]) (by simp [OY])] at h; rw [show O5 (N : Int) 4 ++ (List.replicate 4 (0 : Int) ++ (O5 lsn 8 ++ (List.replicate 4 (0 : Int) ++ List.replicate R.length (0 : Int)))) = (O5 (N : Int) 4 ++ List.replicate 4 (0 : Int)) ++ ((O5 lsn 8) ++ (List.replicate 4 (0 : Int) ++ List.replicate R.length (0 : Int))) from by simp only [List.append_assoc, List.nil_append, List.append_nil]]; exact h);have bp := hid (bo.out.next hk (fun i hi e => by have := aN.out.size; omega));have Ky := hid (K1.out.next hk (fun i hi e => e));clear hb hk
  go_wp2_with fail
  refine (Qm w1.heap.size 16 4 (N - 16) 5 _ (ep) _ oU.out (by rw [O1]; simp [OY]; try omega) (by omega) (by omega) (by omega)).mono ?_;rintro e w5 ⟨rfl, hb, hk⟩;have qO : Hid (Blk w5 w1.heap.size 5 (vals .u8 (O5 (N : Int) 4 ++ (List.replicate 4 (0 : Int) ++ (O5 lsn 8 ++ (O5 ep 4 ++ List.replicate R.length (0 : Int))))))) := (by have h := hb; rw [show O5 (N : Int) 4 ++ (List.replicate 4 (0 : Int) ++ (O5 lsn 8 ++ (List.replicate 4 (0 : Int) ++ List.replicate R.length (0 : Int)))) = ((O5 (N : Int) 4 ++ List.replicate 4 (0 : Int)) ++ O5 lsn 8) ++ ((List.replicate 4 (0 : Int)) ++ (List.replicate R.length (0 : Int))) from by simp only [List.append_assoc, List.nil_append, List.append_nil], jcO _ ((O5 (N : Int) 4 ++ List.replicate 4 (0 : Int)) ++ O5 lsn 8) (List.replicate 4 (0 : Int)) (List.replicate R.length (0 : Int)) (O5 ep 4) 16 (by simp [OY]) (by simp [OY])] at h; rw [show O5 (N : Int) 4 ++ (List.replicate 4 (0 : Int) ++ (O5 lsn 8 ++ (O5 ep 4 ++ List.replicate R.length (0 : Int)))) = ((O5 (N : Int) 4 ++ List.replicate 4 (0 : Int)) ++ O5 lsn 8) ++ ((O5 ep 4) ++ (List.replicate R.length (0 : Int))) from by simp only [List.append_assoc, List.nil_append, List.append_nil]]; exact h);have cd := hid (bp.out.next hk (fun i hi e => by have := aN.out.size; omega));have FG := hid (Ky.out.next hk (fun i hi e => e));clear hb hk;have jb := hid (dS.out.kept FG.out (fun b hb e => by have hb : g1 = b := Option.some.inj hb; omega));have iL := run_copy_cells (P := Tryz.prog) w5 22 22 3 5 w1.heap.size 20 (N - 20) (N - 20) ⟨g1, 0, none⟩ R.length c1 (vals .u8 R) Tryz.underlying22 (by rw [hi]; simp [cE]) (by rw [O1]; have : N - 20 = R.length := (by have := HN.out; omega); simp [this]) (UR (off := 0) (fun i h => by have := jb.out.cell rfl i h; simpa using this)) (fun j hj => by rw [O1] at hj; rw [qO.out.cell, List.getElem?_eq_getElem (by rw [O1]; simp [OY]; try omega)]; rfl) (fun j _ => qO.out.frozen _) Qy;have N3 := hid iL;have ul : Hid (Blk (w5.setCells w1.heap.size 20 (vals .u8 R)) w1.heap.size 5 (vals .u8 (O5 (N : Int) 4 ++ (List.replicate 4 (0 : Int) ++ (O5 lsn 8 ++ (O5 ep 4 ++ R)))))) := (by have h := Blk.setCells (vals .u8 R) 20 qO.out (by rw [O1, O1]; simp [OY]; try omega); rw [show O5 (N : Int) 4 ++ (List.replicate 4 (0 : Int) ++ (O5 lsn 8 ++ (O5 ep 4 ++ List.replicate R.length (0 : Int)))) = (((O5 (N : Int) 4 ++ List.replicate 4 (0 : Int)) ++ O5 lsn 8) ++ O5 ep 4) ++ ((List.replicate R.length (0 : Int)) ++ ([])) from by simp only [List.append_assoc, List.nil_append, List.append_nil], jcO _ (((O5 (N : Int) 4 ++ List.replicate 4 (0 : Int)) ++ O5 lsn 8) ++ O5 ep 4) (List.replicate R.length (0 : Int)) ([]) (R) 20 (by simp [OY]) (by simp [OY])] at h; rw [show O5 (N : Int) 4 ++ (List.replicate 4 (0 : Int) ++ (O5 lsn 8 ++ (O5 ep 4 ++ R))) = (((O5 (N : Int) 4 ++ List.replicate 4 (0 : Int)) ++ O5 lsn 8) ++ O5 ep 4) ++ ((R) ++ ([])) from by simp only [List.append_assoc, List.nil_append, List.append_nil]]; exact h);have bR : Hid (Same w (w5.setCells w1.heap.size 20 (vals .u8 R))) := Kept.setCells (.inl (by have := aN.out.size; omega)) _ _ cd.out
  have J3 : Hid (Kept (fun b => b = w1.heap.size) w1 (w5.setCells w1.heap.size 20 (vals .u8 R))) := Kept.setCells (R := fun b => b = w1.heap.size) (.inr rfl) _ _ FG.out;have iI : Hid (Rd .u8 (w5.setCells w1.heap.size 20 (vals .u8 R)) (.slice (some ⟨w1.heap.size, 8, none⟩) (N - 8) (N - 8)) (QB lsn ep R)) := (by have h := Blk.rd ul.out 8 (N - 8) (N - 8) (by have := HN.out; simp [OY]; try omega) (Nat.le_refl _) (by unfold maxLen; simp [OY]; try omega); rw [qG.out]; rw [show ((O5 (N : Int) 4 ++ (List.replicate 4 (0 : Int) ++ (O5 lsn 8 ++ (O5 ep 4 ++ R)))).drop 8).take (N - 8) = (O5 lsn 8 ++ O5 ep 4) ++ R from (by rw [show O5 (N : Int) 4 ++ (List.replicate 4 (0 : Int) ++ (O5 lsn 8 ++ (O5 ep 4 ++ R))) = (O5 (N : Int) 4 ++ List.replicate 4 (0 : Int)) ++ ((O5 lsn 8 ++ O5 ep 4) ++ R) from by simp only [List.append_assoc], List.drop_left' (by simp [OY]), List.take_of_length_le (by have := HN.out; simp [OY]; try omega)])] at h; exact h);rw [O1] at iL;generalize (w5.setCells w1.heap.size 20 (vals .u8 R)) = w6 at *
  go_wp2_with fail
  have hS : ((fun _ : World => True)) w6.drew := by trivial
  refine O0 ((fun _ : World => True)) 99 6 ?_;refine tk 0 51 hS ?_;refine tk 1 52 hS ?_;refine tk 2 53 hS ?_;refine tk 3 54 hS ?_;refine o1Q 4 (fun K hK => ?_);go_simp;refine (TU _ (QB lsn ep R) _ oW.out (by omega) (iI.out.same kZ0.drew)).mono ?_;rintro e w7 ⟨rfl, hk⟩;have me : Hid (Blk w7 w1.heap.size 5 (vals .u8 (O5 (N : Int) 4 ++ (List.replicate 4 (0 : Int) ++ (O5 lsn 8 ++ (O5 ep 4 ++ R)))))) := ul.out.drew.same hk;have dD := hid (bR.out.drew.trans hk);have Kr : Hid (Kept (fun b => b = w1.heap.size) w1 w7) := J3.out.drew.next (hk.mono (fun _ _ e => absurd e id)) (fun i hi e => e);clear hk
  have hS : ((fun _ : World => True)) w7 := by trivial
  refine hK.out _ _ (fun _ => hS) ?_;clear hK K
  try simp only [Sp]
  refine o1Q 5 (fun K hK => ?_);go_simp;refine (Qm w1.heap.size 4 4 (N - 4) 5 _ (Pp 0 (QB lsn ep R)) _ me.out (by rw [O1]; simp [OY]; try omega) (by omega) (by omega) (by omega)).mono ?_;rintro e w8 ⟨rfl, hb, hk⟩;have uF : Hid (Blk w8 w1.heap.size 5 (vals .u8 (O5 (N : Int) 4 ++ (O5 (Pp 0 (QB lsn ep R)) 4 ++ (O5 lsn 8 ++ (O5 ep 4 ++ R)))))) := (by have h := hb; rw [show O5 (N : Int) 4 ++ (List.replicate 4 (0 : Int) ++ (O5 lsn 8 ++ (O5 ep 4 ++ R))) = (O5 (N : Int) 4) ++ ((List.replicate 4 (0 : Int)) ++ (O5 lsn 8 ++ (O5 ep 4 ++ R))) from by simp only [List.append_assoc, List.nil_append, List.append_nil], jcO _ (O5 (N : Int) 4) (List.replicate 4 (0 : Int)) (O5 lsn 8 ++ (O5 ep 4 ++ R)) (O5 (Pp 0 (QB lsn ep R)) 4) 4 (by simp [OY]) (by simp [OY])] at h; rw [show O5 (N : Int) 4 ++ (O5 (Pp 0 (QB lsn ep R)) 4 ++ (O5 lsn 8 ++ (O5 ep 4 ++ R))) = (O5 (N : Int) 4) ++ ((O5 (Pp 0 (QB lsn ep R)) 4) ++ (O5 lsn 8 ++ (O5 ep 4 ++ R))) from by simp only [List.append_assoc, List.nil_append, List.append_nil]]; exact h);have dG := hid (dD.out.next hk (fun i hi e => by have := aN.out.size; omega));have vR := hid (Kr.out.next hk (fun i hi e => e));clear hb hk
  have hS : ((fun _ : World => True)) w8 := by trivial
  refine hK.out _ _ (fun _ => hS) ?_;clear hK K
  try simp only [Sp]
  refine OZ ?_;go_wp2;go_ret
  have cg : (frB lsn ep R).length = N := by have := HN.out; rw [uq.out]; simp [OY]; try omega
  refine ⟨some ⟨w1.heap.size, 0, none⟩, N, by first | (rw [cg]; done) | simp [cg], fun b hb => ?_, ?_, dG.out⟩
  ·have hb : w1.heap.size = b := by simpa [Value.ownBlock] using hb
   have := aN.out.size;omega
  ·have h := Blk.own uF.out (by unfold maxLen; simp [OY]; try omega)
   rw [← uq.out] at h;rw [cg] at h ⊢;exact h
 ·rw [YV hy]
  have zH : (P8 x.dat).length = 0 ∨ (1 ≤ (P8 x.dat).length ∧ (P8 x.dat).length ≤ 5000 ∧ ¬ ((1 ≤ lsn ∧ lsn ≤ 1099511627776) ∧ (1 ≤ ep ∧ ep ≤ 4294967295))) := by by_cases h : O9 x.dat = 0; rw [P9 h]; exact .inr ⟨(Q5 h).1, (Q5 h).2, fun h2 => hy ⟨h, h2⟩⟩; rw [Sj h]; exact .inl rfl
  clear hy hB hn hv;generalize P8 x.dat = R at *;obtain ⟨kind, txn, prev, page, slot, ⟨bU, ⟨eS, ax, ay, aI⟩⟩, ⟨aU, ⟨eP, ao, al, aG⟩⟩, uN, nT, ⟨dI, aJ, ak, aK, bh⟩, ⟨dF, aM, aw, aH, bw⟩, ⟨eM, aF, aD, aL⟩⟩ := x;dsimp only [StLogRecord.val, StPageRecord.val, BS.v, FR.v] at HE ⊢;have aP := hid (Rv w [Q1 kind, Q1 txn, Q1 prev, Q1 page, Q1 slot, .bool bU, .slice ax aI.length ay, .bool aU, .slice ao aG.length al, Q1 uN, Q1 nT, .slice aJ ak aK, .slice aM aw aH, .slice aF aL.length aD] 28)
  have key : (R.length : Int) = 0 ∨ (¬ (R.length : Int) = 0 ∧ lsn < 1) ∨ (¬ (R.length : Int) = 0 ∧ ¬ lsn < 1 ∧ 1099511627776 < lsn) ∨ (¬ (R.length : Int) = 0 ∧ ¬ lsn < 1 ∧ ¬ 1099511627776 < lsn ∧ ep < 1) ∨ (¬ (R.length : Int) = 0 ∧ ¬ lsn < 1 ∧ ¬ 1099511627776 < lsn ∧ ¬ ep < 1 ∧ 4294967295 < ep) := by omega
  clear zH
  rcases key with h1 | ⟨h1, h2⟩ | ⟨h1, h2, h3⟩ | ⟨h1, h2, h3, h4⟩ | ⟨h1, h2, h3, h4, h5⟩
  ·have q1 : ((R.length : Int) == 0) = true := by rw [beq_iff_eq]; exact h1
   go_enter Tryz.func16, Tryz.ntmps16
   go_wp2_with fail
   refine (HE.out _ aP.out).mono ?_;rintro e w1 ⟨a1, c1, rfl, hf, ho, hk⟩;have aN := hid (aP.out.trans hk);clear hf ho hk;go_wp2;go_ret;exact ⟨none, 0, rfl, fun b hb => (by simp [Value.ownBlock] at hb), Own.nil _ _ _ _, aN.out⟩
  ·have q1 : ((R.length : Int) == 0) = false := by rw [beq_eq_false_iff_ne]; exact h1
   have q2 : decide (lsn < 1) = true := decide_eq_true h2
   go_enter Tryz.func16, Tryz.ntmps16
   go_wp2_with fail
   refine (HE.out _ aP.out).mono ?_;rintro e w1 ⟨a1, c1, rfl, hf, ho, hk⟩;have aN := hid (aP.out.trans hk);clear hf ho hk;go_wp2;go_ret;exact ⟨none, 0, rfl, fun b hb => (by simp [Value.ownBlock] at hb), Own.nil _ _ _ _, aN.out⟩
  ·have q1 : ((R.length : Int) == 0) = false := by rw [beq_eq_false_iff_ne]; exact h1
   have q2 : decide (lsn < 1) = false := decide_eq_false h2;have q3 : decide (1099511627776 < lsn) = true := decide_eq_true h3
   go_enter Tryz.func16, Tryz.ntmps16
   go_wp2_with fail
   refine (HE.out _ aP.out).mono ?_;rintro e w1 ⟨a1, c1, rfl, hf, ho, hk⟩;have aN := hid (aP.out.trans hk);clear hf ho hk;go_wp2;go_ret;exact ⟨none, 0, rfl, fun b hb => (by simp [Value.ownBlock] at hb), Own.nil _ _ _ _, aN.out⟩
  ·have q1 : ((R.length : Int) == 0) = false := by rw [beq_eq_false_iff_ne]; exact h1
   have q2 : decide (lsn < 1) = false := decide_eq_false h2;have q3 : decide (1099511627776 < lsn) = false := decide_eq_false h3;have q4 : decide (ep < 1) = true := decide_eq_true h4
   go_enter Tryz.func16, Tryz.ntmps16
   go_wp2_with fail
   refine (HE.out _ aP.out).mono ?_;rintro e w1 ⟨a1, c1, rfl, hf, ho, hk⟩;have aN := hid (aP.out.trans hk);clear hf ho hk;go_wp2;go_ret;exact ⟨none, 0, rfl, fun b hb => (by simp [Value.ownBlock] at hb), Own.nil _ _ _ _, aN.out⟩
  ·have q1 : ((R.length : Int) == 0) = false := by rw [beq_eq_false_iff_ne]; exact h1
   have q2 : decide (lsn < 1) = false := decide_eq_false h2;have q3 : decide (1099511627776 < lsn) = false := decide_eq_false h3;have q4 : decide (ep < 1) = false := decide_eq_false h4;have q5 : decide (4294967295 < ep) = true := decide_eq_true h5
   go_enter Tryz.func16, Tryz.ntmps16
   go_wp2_with fail
   refine (HE.out _ aP.out).mono ?_;rintro e w1 ⟨a1, c1, rfl, hf, ho, hk⟩;have aN := hid (aP.out.trans hk);clear hf ho hk;go_wp2;go_ret;exact ⟨none, 0, rfl, fun b hb => (by simp [Value.ownBlock] at hb), Own.nil _ _ _ _, aN.out⟩
theorem XE (lsn ep : Int) (x : StLogRecord) (w : World) (hL : IsI lsn) (hE : IsI ep) (hB : x.isB) (hn : x.szs ≤ 1073741824) (hv : StLogRecord.rd w x) : Calls Tryz.prog 17 #[Q1 lsn, Q1 ep, x.val] w fun e w' => ∃ a c, e = .returned (.slice a (VT lsn ep x.dat).length c) ∧ (∀ b, (Value.slice a (VT lsn ep x.dat).length c).ownBlock = some b → w.heap.size ≤ b) ∧ Own 0 5 .u8 w' (.slice a (VT lsn ep x.dat).length c) (VT lsn ep x.dat) ∧ Same w w' := by
 have HF := (show Hid (∀ wx, Same w wx → Calls Tryz.prog 7 #[x.val] wx fun e w' => e = .returned (Q1 (O9 x.dat)) ∧ Same wx w') from fun wx (h : Same w wx) => Qc x wx hB hn (StLogRecord.rd.same hv h));have HE := hid (fun wx (h : Same w wx) => Rz x wx hB hn (StLogRecord.rd.same hv h));have HS := hid (fun wx (h : Same w wx) => jaI x wx hB hn (StLogRecord.rd.same hv h))
 by_cases hy : O9 x.dat = 0 ∧ (1 ≤ lsn ∧ lsn ≤ 1099511627776) ∧ (1 ≤ ep ∧ ep ≤ 4294967295)
 ·have pD := Q5 hy.1
  have qv := Sk hB hy.1;rw [WZ hy];rw [hy.1] at HF;rw [P9 hy.1] at HE;rw [Um hy.1] at HS;have mh := hy.2;clear hy hB hn hv;generalize Pe x.dat = R at *;obtain ⟨kind, txn, prev, page, slot, ⟨bU, ⟨eS, ax, ay, aI⟩⟩, ⟨aU, ⟨eP, ao, al, aG⟩⟩, uN, nT, ⟨dI, aJ, ak, aK, bh⟩, ⟨dF, aM, aw, aH, bw⟩, ⟨eM, aF, aD, aL⟩⟩ := x;dsimp only [StLogRecord.val, StPageRecord.val, BS.v, FR.v] at HF HE HS ⊢;obtain ⟨⟨oI, je⟩, s7, Cm⟩ := mh;have bD := (show Hid (∀ wx, Calls Tryz.prog 32 #[Q1 lsn, Q1 1, Q1 1099511627776] wx fun e w' => e = .returned (.bool true) ∧ Same wx w') from fun wx => by have h := Qh lsn 1 1099511627776 wx; rwa [show inB lsn 1 1099511627776 = true by simp [inB]; omega] at h);have bL := (show Hid (∀ wx, Calls Tryz.prog 32 #[Q1 ep, Q1 1, Q1 4294967295] wx fun e w' => e = .returned (.bool true) ∧ Same wx w') from fun wx => by have h := Qh ep 1 4294967295 wx; rwa [show inB ep 1 4294967295 = true by simp [inB]; omega] at h);obtain ⟨aP, dO⟩ := new1 w [Q1 kind, Q1 txn, Q1 prev, Q1 page, Q1 slot, .bool bU, .slice ax aI.length ay, .bool aU, .slice ao aG.length al, Q1 uN, Q1 nT, .slice aJ ak aK, .slice aM aw aH, .slice aF aL.length aD] 28;have b0 := dO.out;have KC := b0.lt;have oW := hid (Sz (lsn := lsn) (ep := ep) qv);have cw := VJ lsn ep R;have mO := R6 0 (QB lsn ep R) (by omega) (by omega) oW.out
  go_enter Tryz.func17, Tryz.ntmps17
  go_wp2_with fail
  refine (HF.out _ aP.out).mono ?_;rintro e w1 ⟨rfl, hk⟩;have aN := hid (aP.out.trans hk);have b1 := b0.same hk;clear hk
  go_wp2_with fail
  refine (bD.out _).mono ?_;rintro e w2 ⟨rfl, hk⟩;have aO := hid (aN.out.trans hk);have b2 := b1.same hk;clear hk
  go_wp2_with fail
  refine (bL.out _).mono ?_;rintro e w3 ⟨rfl, hk⟩;have bo := hid (aO.out.trans hk);have b3 := b2.same hk;clear hk
  go_wp2_with fail
  have hS : ((fun wx : World => D0 wx w.heap.size 0 (Q1 kind) ∧ D0 wx w.heap.size 1 (Q1 txn) ∧ D0 wx w.heap.size 2 (Q1 prev) ∧ D0 wx w.heap.size 3 (Q1 page) ∧ D0 wx w.heap.size 4 (Q1 slot) ∧ D0 wx w.heap.size 5 (.bool bU) ∧ D0 wx w.heap.size 6 (.slice ax aI.length ay) ∧ D0 wx w.heap.size 7 (.bool aU) ∧ D0 wx w.heap.size 8 (.slice ao aG.length al) ∧ D0 wx w.heap.size 9 (Q1 uN) ∧ D0 wx w.heap.size 10 (Q1 nT) ∧ D0 wx w.heap.size 11 (.slice aJ ak aK) ∧ D0 wx w.heap.size 12 (.slice aM aw aH) ∧ D0 wx w.heap.size 13 (.slice aF aL.length aD))) w3.drew := by exact ⟨b3.cell 0, b3.cell 1, b3.cell 2, b3.cell 3, b3.cell 4, b3.cell 5, b3.cell 6, b3.cell 7, b3.cell 8, b3.cell 9, b3.cell 10, b3.cell 11, b3.cell 12, b3.cell 13⟩
  refine O0 ((fun wx : World => D0 wx w.heap.size 0 (Q1 kind) ∧ D0 wx w.heap.size 1 (Q1 txn) ∧ D0 wx w.heap.size 2 (Q1 prev) ∧ D0 wx w.heap.size 3 (Q1 page) ∧ D0 wx w.heap.size 4 (Q1 slot) ∧ D0 wx w.heap.size 5 (.bool bU) ∧ D0 wx w.heap.size 6 (.slice ax aI.length ay) ∧ D0 wx w.heap.size 7 (.bool aU) ∧ D0 wx w.heap.size 8 (.slice ao aG.length al) ∧ D0 wx w.heap.size 9 (Q1 uN) ∧ D0 wx w.heap.size 10 (Q1 nT) ∧ D0 wx w.heap.size 11 (.slice aJ ak aK) ∧ D0 wx w.heap.size 12 (.slice aM aw aH) ∧ D0 wx w.heap.size 13 (.slice aF aL.length aD))) 99 8 ?_;refine tk 0 22 hS ?_;refine tk 2 24 hS ?_;refine tk 4 26 hS ?_;refine o1Q 1 (fun K hK => ?_);go_simp;refine (QV lsn 8 _ (by unfold IsI; omega) (by unfold IsI; omega)).mono ?_;rintro e w4 ⟨a4, c4, rfl, hf, ho, hk⟩;have bp := hid (bo.out.drew.trans hk);have dK := (show Hid (∀ b, (Value.slice a4 (OW lsn 8).length c4).ownBlock = some b → w.heap.size ≤ b) from fun b hb => Nat.le_trans bo.out.drew.size (hf b hb));have vu := (show Hid (∀ b, (Value.slice a4 (OW lsn 8).length c4).ownBlock = some b → w.heap.size + 1 ≤ b) from fun b hb => Nat.le_trans (by have := b3.lt; simp only [World.size_drew]; omega) (hf b hb));have dV : Hid (Own 0 5 .u8 w4 (Value.slice a4 (OW lsn 8).length c4) (OW lsn 8)) := ho;have b4 := b3.drew.same hk;clear hf ho hk
  have hS : ((fun wx : World => D0 wx w.heap.size 0 (Q1 kind) ∧ D0 wx w.heap.size 1 (Q1 txn) ∧ D0 wx w.heap.size 2 (Q1 prev) ∧ D0 wx w.heap.size 3 (Q1 page) ∧ D0 wx w.heap.size 4 (Q1 slot) ∧ D0 wx w.heap.size 5 (.bool bU) ∧ D0 wx w.heap.size 6 (.slice ax aI.length ay) ∧ D0 wx w.heap.size 7 (.bool aU) ∧ D0 wx w.heap.size 8 (.slice ao aG.length al) ∧ D0 wx w.heap.size 9 (Q1 uN) ∧ D0 wx w.heap.size 10 (Q1 nT) ∧ D0 wx w.heap.size 11 (.slice aJ ak aK) ∧ D0 wx w.heap.size 12 (.slice aM aw aH) ∧ D0 wx w.heap.size 13 (.slice aF aL.length aD))) w4 := by exact ⟨b4.cell 0, b4.cell 1, b4.cell 2, b4.cell 3, b4.cell 4, b4.cell 5, b4.cell 6, b4.cell 7, b4.cell 8, b4.cell 9, b4.cell 10, b4.cell 11, b4.cell 12, b4.cell 13⟩
  refine hK.out _ _ (fun _ => hS) ?_;clear hK K
  try simp only [Sp]
  refine o1Q 3 (fun K hK => ?_);go_simp;refine (Ph _ (OW lsn 8) ep 4 _ (by unfold IsI; omega) (by unfold IsI; omega) (by have := O3 lsn 8; omega) dV.out).mono ?_;rintro e w5 ⟨a5, n5, c5, rfl, ag, hg⟩;have cd := hid (hg.same bp.out dK.out);have FJ := hid (hg.fresh bp.out dK.out);have dZ : Hid (Own 0 5 .u8 w5 (Value.slice a5 n5 c5) (OW lsn 8 ++ OW ep 4)) := ag;have b5 := b4.kept hg.kept (fun e => by have := dK.out _ e; have := KC; exact absurd (vu.out _ e) (by omega));have CV := (show Hid (∀ b, (Value.slice a5 n5 c5).ownBlock = some b → w.heap.size + 1 ≤ b) from fun b hb => (hg.own b hb).elim (fun h => by have := vu.out b h; omega) (fun h => by have := b4.lt; omega));clear ag hg
  have hS : ((fun wx : World => D0 wx w.heap.size 0 (Q1 kind) ∧ D0 wx w.heap.size 1 (Q1 txn) ∧ D0 wx w.heap.size 2 (Q1 prev) ∧ D0 wx w.heap.size 3 (Q1 page) ∧ D0 wx w.heap.size 4 (Q1 slot) ∧ D0 wx w.heap.size 5 (.bool bU) ∧ D0 wx w.heap.size 6 (.slice ax aI.length ay) ∧ D0 wx w.heap.size 7 (.bool aU) ∧ D0 wx w.heap.size 8 (.slice ao aG.length al) ∧ D0 wx w.heap.size 9 (Q1 uN) ∧ D0 wx w.heap.size 10 (Q1 nT) ∧ D0 wx w.heap.size 11 (.slice aJ ak aK) ∧ D0 wx w.heap.size 12 (.slice aM aw aH) ∧ D0 wx w.heap.size 13 (.slice aF aL.length aD))) w5 := by exact ⟨b5.cell 0, b5.cell 1, b5.cell 2, b5.cell 3, b5.cell 4, b5.cell 5, b5.cell 6, b5.cell 7, b5.cell 8, b5.cell 9, b5.cell 10, b5.cell 11, b5.cell 12, b5.cell 13⟩
  refine hK.out _ _ (fun _ => hS) ?_;clear hK K
  try simp only [Sp]
  refine o1Q 5 (fun K hK => ?_);go_simp;refine (HE.out _ cd.out).mono ?_;rintro e w6 ⟨a6, c6, rfl, hf, ho, hk⟩;have Mk : Hid (Rd .u8 w6 (.slice a6 R.length c6) R) := ho.rd;have bR := hid (cd.out.trans hk);have jz := hid (dZ.out.same hk);have b6 := b5.same hk;clear hf ho hk
  have hS : ((fun wx : World => D0 wx w.heap.size 0 (Q1 kind) ∧ D0 wx w.heap.size 1 (Q1 txn) ∧ D0 wx w.heap.size 2 (Q1 prev) ∧ D0 wx w.heap.size 3 (Q1 page) ∧ D0 wx w.heap.size 4 (Q1 slot) ∧ D0 wx w.heap.size 5 (.bool bU) ∧ D0 wx w.heap.size 6 (.slice ax aI.length ay) ∧ D0 wx w.heap.size 7 (.bool aU) ∧ D0 wx w.heap.size 8 (.slice ao aG.length al) ∧ D0 wx w.heap.size 9 (Q1 uN) ∧ D0 wx w.heap.size 10 (Q1 nT) ∧ D0 wx w.heap.size 11 (.slice aJ ak aK) ∧ D0 wx w.heap.size 12 (.slice aM aw aH) ∧ D0 wx w.heap.size 13 (.slice aF aL.length aD))) w6 := by exact ⟨b6.cell 0, b6.cell 1, b6.cell 2, b6.cell 3, b6.cell 4, b6.cell 5, b6.cell 6, b6.cell 7, b6.cell 8, b6.cell 9, b6.cell 10, b6.cell 11, b6.cell 12, b6.cell 13⟩
  refine hK.out _ _ (fun _ => hS) ?_;clear hK K
  try simp only [Sp]
  refine o1Q 6 (fun K hK => ?_);refine Tk (by rfl) (.tmp 25) (.tmp 27) (by rfl) (.slice a5 n5 c5) (.slice a6 R.length c6) (OW lsn 8 ++ OW ep 4) R (by rfl) (by rfl) jz.out Mk.out (by have := O3 lsn 8; have := O3 ep 4; rw [List.length_append]; omega) ?_;intro a7 n7 c7 w7 ag hg;have gh : Hid (Own 0 5 .u8 w7 (Value.slice a7 n7 c7) (QB lsn ep R)) := ag;have dD := hid (hg.same bR.out FJ.out);have Oc := hid (hg.fresh bR.out FJ.out);have b7 := b6.kept hg.kept (fun e => by have := CV.out _ e; omega);clear ag hg
  have hS : ((fun wx : World => D0 wx w.heap.size 0 (Q1 kind) ∧ D0 wx w.heap.size 1 (Q1 txn) ∧ D0 wx w.heap.size 2 (Q1 prev) ∧ D0 wx w.heap.size 3 (Q1 page) ∧ D0 wx w.heap.size 4 (Q1 slot) ∧ D0 wx w.heap.size 5 (.bool bU) ∧ D0 wx w.heap.size 6 (.slice ax aI.length ay) ∧ D0 wx w.heap.size 7 (.bool aU) ∧ D0 wx w.heap.size 8 (.slice ao aG.length al) ∧ D0 wx w.heap.size 9 (Q1 uN) ∧ D0 wx w.heap.size 10 (Q1 nT) ∧ D0 wx w.heap.size 11 (.slice aJ ak aK) ∧ D0 wx w.heap.size 12 (.slice aM aw aH) ∧ D0 wx w.heap.size 13 (.slice aF aL.length aD))) w7 := by exact ⟨b7.cell 0, b7.cell 1, b7.cell 2, b7.cell 3, b7.cell 4, b7.cell 5, b7.cell 6, b7.cell 7, b7.cell 8, b7.cell 9, b7.cell 10, b7.cell 11, b7.cell 12, b7.cell 13⟩
  refine hK.out _ _ (fun _ => hS) ?_;clear hK K
  try simp only [Sp]
  refine tk 7 7 hS ?_;refine OZ ?_;obtain ⟨KO, JQ, MK, Ll, Kg, Kt, K3, JK, Mw, Lb, IE, GQ, Ik, I9⟩ := b7.all14
  go_wp2_with fail
  refine (HS.out _ dD.out).mono ?_;rintro e w8 ⟨rfl, hk⟩;have dG := hid (dD.out.trans hk);have lm := hid (gh.out.same hk);clear hk
  go_wp2_with fail
  refine (QV (20 + (R.length : Int)) 4 _ (by unfold IsI; omega) (by unfold IsI; omega)).mono ?_;rintro e w9 ⟨a9, c9, rfl, hf, ho, hk⟩;have gy := hid (dG.out.trans hk);have IB := (show Hid (∀ b, (Value.slice a9 (OW (20 + (R.length : Int)) 4).length c9).ownBlock = some b → w.heap.size ≤ b) from fun b hb => Nat.le_trans dG.out.size (hf b hb));have jw : Hid (Own 0 5 .u8 w9 (Value.slice a9 (OW (20 + (R.length : Int)) 4).length c9) (OW (20 + (R.length : Int)) 4)) := ho;have FI := hid (lm.out.same hk);have uw := (show Hid (∀ b, (Value.slice a9 (OW (20 + (R.length : Int)) 4).length c9).ownBlock = some b → ¬ (Value.slice a7 n7 c7).ownBlock = some b) from fun b h1 h2 => by have := hf b h1; have := (lm.out.lt b h2).2; omega);clear hf ho hk
  go_wp2_with fail
  refine (VB _ (QB lsn ep R) _ oW.out (by omega) FI.out.rd).mono ?_;rintro e mQ ⟨rfl, hk⟩;have xD := hid (gy.out.trans hk);have B7 := hid (jw.out.same hk);have Dd := hid (FI.out.same hk);clear hk
  go_wp2_with fail
  refine (Ph _ (OW (20 + (R.length : Int)) 4) (Pp 0 (QB lsn ep R)) 4 _ (by unfold IsI; omega) (by unfold IsI; omega) (by have := O3 (20 + (R.length : Int)) 4; omega) B7.out).mono ?_;rintro e lN ⟨Ge, n11, c11, rfl, ag, hg⟩;have xT := hid (hg.same xD.out IB.out);have zb := hid (hg.fresh xD.out IB.out);have CC : Hid (Own 0 5 .u8 lN (Value.slice Ge n11 c11) (OW (20 + (R.length : Int)) 4 ++ OW (Pp 0 (QB lsn ep R)) 4)) := ag;have DK := hid (Dd.out.kept hg.kept (fun b h1 h2 => uw.out b h2 h1));clear ag hg
  have Lx : (OW (20 + (R.length : Int)) 4 ++ OW (Pp 0 (QB lsn ep R)) 4).length ≤ 16 := by have := O3 (20 + (R.length : Int)) 4; have := O3 (Pp 0 (QB lsn ep R)) 4; rw [List.length_append]; omega
  go_wp2_with (at_builtin; go_loud (refine QJ rfl (.tmp 34) (.tmp 35) rfl (.slice Ge n11 c11) (.slice a7 n7 c7) _ (QB lsn ep R) rfl rfl CC.out DK.out.rd (by omega) ?_); intro Kx n12 c12 vn ag hg; have vJ : Hid (Own 0 5 .u8 vn (Value.slice Kx n12 c12) (frB lsn ep R)) := ag; have Cv := hid (hg.same xT.out zb.out); have DU := hid (hg.fresh xT.out zb.out); clear ag hg)
  go_ret;obtain rfl := vJ.out.sized;exact ⟨_, _, rfl, DU.out, vJ.out, Cv.out⟩
 ·rw [YV hy]
  have zH : O9 x.dat ≠ 0 ∨ (O9 x.dat = 0 ∧ ¬ (1 ≤ lsn ∧ lsn ≤ 1099511627776)) ∨ (O9 x.dat = 0 ∧ (1 ≤ lsn ∧ lsn ≤ 1099511627776) ∧ ¬ (1 ≤ ep ∧ ep ≤ 4294967295)) := by by_cases h : O9 x.dat = 0; by_cases h2 : (1 ≤ lsn ∧ lsn ≤ 1099511627776); exact .inr (.inr ⟨h, h2, fun h3 => hy ⟨h, h2, h3⟩⟩); exact .inr (.inl ⟨h, h2⟩); exact .inl h
  clear hy hB hn hv HE HS;generalize O9 x.dat = r at *;obtain ⟨kind, txn, prev, page, slot, ⟨bU, ⟨eS, ax, ay, aI⟩⟩, ⟨aU, ⟨eP, ao, al, aG⟩⟩, uN, nT, ⟨dI, aJ, ak, aK, bh⟩, ⟨dF, aM, aw, aH, bw⟩, ⟨eM, aF, aD, aL⟩⟩ := x;dsimp only [StLogRecord.val, StPageRecord.val, BS.v, FR.v] at HF ⊢;have aP := hid (Rv w [Q1 kind, Q1 txn, Q1 prev, Q1 page, Q1 slot, .bool bU, .slice ax aI.length ay, .bool aU, .slice ao aG.length al, Q1 uN, Q1 nT, .slice aJ ak aK, .slice aM aw aH, .slice aF aL.length aD] 28);have bD := hid (fun wx => Qh lsn 1 1099511627776 wx);have bL := hid (fun wx => Qh ep 1 4294967295 wx)
  rcases zH with hr | ⟨rfl, hc⟩ | ⟨rfl, hc, lM⟩
  ·go_enter Tryz.func17, Tryz.ntmps17
   go_wp2_with fail
   refine (HF.out _ aP.out).mono ?_;rintro e wz ⟨rfl, hk⟩;have qQ := hid (aP.out.trans hk);clear hk;go_wp2;go_ret;exact ⟨_, _, rfl, fun b hb => (by have := qQ.out.size; have hb : wz.heap.size = b := (by simpa [Value.ownBlock] using hb); omega), Own.empty _ _, qQ.out.alloc _⟩
  ·go_enter Tryz.func17, Tryz.ntmps17
   go_wp2_with fail
   refine (HF.out _ aP.out).mono ?_;rintro e w1 ⟨rfl, hk⟩;have aN := hid (aP.out.trans hk);clear hk;rw [show inB lsn 1 1099511627776 = false by simp [inB]; omega] at bD
   go_wp2_with fail
   refine (bD.out _).mono ?_;rintro e wz ⟨rfl, hk⟩;have qQ := hid (aN.out.trans hk);clear hk;go_wp2;go_ret;exact ⟨_, _, rfl, fun b hb => (by have := qQ.out.size; have hb : wz.heap.size = b := (by simpa [Value.ownBlock] using hb); omega), Own.empty _ _, qQ.out.alloc _⟩
  ·go_enter Tryz.func17, Tryz.ntmps17
   go_wp2_with fail
   refine (HF.out _ aP.out).mono ?_;rintro e w1 ⟨rfl, hk⟩;have aN := hid (aP.out.trans hk);clear hk;rw [show inB lsn 1 1099511627776 = true by simp [inB]; omega] at bD
   go_wp2_with fail
   refine (bD.out _).mono ?_;rintro e w2 ⟨rfl, hk⟩;have aO := hid (aN.out.trans hk);clear hk;rw [show inB ep 1 4294967295 = false by simp [inB]; omega] at bL
   go_wp2_with fail
   refine (bL.out _).mono ?_;rintro e wz ⟨rfl, hk⟩;have qQ := hid (aO.out.trans hk);clear hk;go_wp2;go_ret;exact ⟨_, _, rfl, fun b hb => (by have := qQ.out.size; have hb : wz.heap.size = b := (by simpa [Value.ownBlock] using hb); omega), Own.empty _ _, qQ.out.alloc _⟩
theorem jcW {rs : List Int} (hB : IsB rs) : 0 ≤ nS rs 2 ∧ nS rs 2 ≤ 65535 := by
 have hl : (QL rs 2).length = 2 := by simp [QL]; omega
 have hb : IsB (QL rs 2) := fun x hx => by
  unfold QL at hx
  rcases List.mem_append.1 hx with h | h
  ·exact hB x (List.mem_of_mem_take h)
  ·rw [List.eq_of_mem_replicate h]; omega
 unfold nS
 match hm : QL rs 2, hl with
 | [a, b], _ =>
  have ha := hb a (by rw [hm]; simp);have iu := hb b (by rw [hm]; simp)
  have hn : num [a, b] = a * 256 + b := by simp [num]
  unfold Ps;rw [hn, if_neg (by simp only [List.length_cons, List.length_nil]; omega)];omega
theorem S9 {w : World} {B0 P : Nat} {v : Value} {bs rs : List Int} {cu : Nat} (hB : IsB bs) (hm : cu ≤ 900000) (hl : bs.length ≤ 1099511627776) (h : RS w B0 P v bs rs cu) :
  Calls Tryz.prog 42 #[Q2 P 0] w fun e w' => ∃ y : StPageRecord, e = .returned y.val ∧ y.dat = (Qr nS QL rs).1 ∧ (∀ b, O6 y.rows b → w.heap.size ≤ b) ∧ OwnL w' y.rows ∧ RS w' B0 P v bs (Qr nS QL rs).2 (cu + 65538) ∧ Kept (fun b => b = P) w w' := by
 have Av := h.lt;have qh := h.le;have hR := h.isB hB;have aW : Same w (w.alloc (.cells #[.bool false, Q4] 24)) := kZ0.alloc _;have dO := hid (Blk.newL w [.bool false, Q4] 24);have aP := hid aW;have H0 := hid (h.same aW);clear h aW
 go_enter Tryz.func42, Tryz.ntmps42
 go_wp2_with fail
 refine (Qb 1 hB (by omega) (by omega) hl H0.out).mono ?_;rintro e w1 ⟨rfl, du, ah⟩
 have er : ¬ w.heap.size = P := by omega
 have bQ := hid (dO.out.kept ah er);have dU := hid du;have aN : Hid (Kept (fun b => b = P) w w1) := (aP.out.mono (fun _ _ e => e.elim)).trans ah;obtain ⟨x, hx⟩ : ∃ x, nS rs 1 = x := ⟨_, rfl⟩;rw [hx];clear du ah H0 aP dO;have Ey : ∀ (u : World), w.heap.size ≤ u.heap.size → True := fun _ _ => trivial
 by_cases h1 : x = 1
 ·subst h1
  have HE : Hid (Qr nS QL rs = ((true, QL (rs.drop 3) (nS (rs.drop 1) 2).toNat), (rs.drop 3).drop (nS (rs.drop 1) 2).toNat)) := if_pos hx;obtain ⟨Lg, fj⟩ := jcW (rs := rs.drop 1) (fun y hy => hR y (List.mem_of_mem_drop hy));obtain ⟨n, hn⟩ : ∃ n : Nat, nS (rs.drop 1) 2 = n := ⟨(nS (rs.drop 1) 2).toNat, by omega⟩;rw [hn, Int.toNat_natCast] at HE
  have oh : n ≤ 65535 := by omega
  have k2 := Qb 2 hB (by omega) (by omega) hl dU.out;rw [hn, List.drop_drop] at k2;clear hx Lg fj hn
  go_wp2_with fail
  refine k2.mono ?_;rintro e w2 ⟨rfl, aS, aj⟩;have eI := hid (bQ.out.kept aj er);have gi := hid aS;have aO := hid (aN.out.trans aj);clear aS aj k2 bQ dU aN
  go_wp2_with fail
  refine (Yb n (by omega) (by omega) hl gi.out).mono ?_;rintro e w3 ⟨g, rfl, hg, ho, nP, aZ⟩;have dJ := eI.out.lt;have lU := hid (eI.out.kept aZ er);have cQ : Kept (fun b => b = w.heap.size) w3 ((w3.setCell ⟨w.heap.size, 0, none⟩ (.bool true)).setCell ⟨w.heap.size, 1, none⟩ (Q3 g n n)) := ((Kept.refl (fun b => b = w.heap.size) w3).setCell (p := ⟨w.heap.size, 0, none⟩) (.inr rfl) _).setCell (p := ⟨w.heap.size, 1, none⟩) (.inr rfl) _;have dV := hid (ho.kept cQ (fun b hb e => by have h7 : g = b := Option.some.inj hb; omega));have gC : Hid (RS ((w3.setCell ⟨w.heap.size, 0, none⟩ (.bool true)).setCell ⟨w.heap.size, 1, none⟩ (Q3 g n n)) B0 P v bs ((rs.drop 3).drop n) (cu + 1 + 2 + n)) := nP.keep cQ (fun e => er e.symm) (fun b _ e => by omega);have bp := hid ((aO.out.trans aZ).next cQ (fun i hi e => by omega));have HG := (show Hid (w.heap.size ≤ g) from by have := aO.out.size; unfold Hid; omega);have HL := (show Hid ((QL (rs.drop 3) n).length = n) from by unfold Hid; obtain ⟨_, _, h⟩ := dV.out.rd.form; injection h with _ h _; exact h.symm);obtain ⟨c0, c1⟩ := lU.out.all2;have fb := lU.out.frozen;clear ho nP aZ cQ lU eI gi aO hg
  go_wp2_with fail
  refine bodyPost_ret (v := .agg #[.bool true, Q3 g n n]) (by simp [results, Tryz.results42, go_sem, c0, c1]) rfl ?_;rw [HE.out];obtain ⟨⟨o, q1, q2, q3⟩, q4, q5⟩ := gC.out;refine ⟨⟨true, ⟨5, some ⟨g, 0, none⟩, n, QL (rs.drop 3) n⟩⟩, by simp only [StPageRecord.val, BS.v, HL.out], rfl, fun b hb => ?_, OwnL.one (by have h := dV.out; simp only [BS.v, HL.out]; exact h), ⟨⟨o, by omega, q2, q3⟩, q4, q5⟩, bp.out⟩;have h := (Pv _ _ _ _ _).1 hb;have h7 : g = b := Option.some.inj h;have := HG.out;omega
 ·have t7 : (x != 1) = true := bne_iff_ne.2 h1
  have HE : Hid (Qr nS QL rs = ((false, []), rs.drop 1)) := if_neg (by rw [hx]; exact h1);obtain ⟨c0, c1⟩ := bQ.out.all2;have fb := bQ.out.frozen;have cQ : ∀ v0 v1, Kept (fun b => b = w.heap.size) w1 ((w1.setCell ⟨w.heap.size, 0, none⟩ v0).setCell ⟨w.heap.size, 1, none⟩ v1) := fun _ _ => ((Kept.refl (fun b => b = w.heap.size) w1).setCell (.inr rfl) _).setCell (.inr rfl) _;have ju := hid cQ;clear cQ hx
  go_wp2_with fail
  refine bodyPost_ret (v := .agg #[.bool false, Q4]) (by simp [results, Tryz.results42, go_sem, c0, c1]) rfl ?_;rw [HE.out];obtain ⟨⟨o, q1, q2, q3⟩, q4, q5⟩ := dU.out;refine ⟨⟨false, ⟨0, none, 0, []⟩⟩, rfl, rfl, fun b hb => by have h := (Pv _ _ _ _ _).1 hb; simp [BS.v, Value.ownBlock] at h, OwnL.one (Own.nil 0 0 .u8 _), ?_, ?_⟩
  ·first
   | exact ⟨⟨o, by omega, q2, q3⟩, q4, q5⟩
   | (have h := dU.out.keep (ju.out (.bool false) (.slice none 0 0)) (fun e => er e.symm) (fun b _ e => by omega); obtain ⟨⟨o, q1, q2, q3⟩, q4, q5⟩ := h; exact ⟨⟨o, by omega, q2, q3⟩, q4, q5⟩)
  ·first | exact aN.out | exact aN.out.next (ju.out _ _) (fun i hi e => by omega)
end Go.Proofs.YtapdfgkbhaoelaaGreatDoor
