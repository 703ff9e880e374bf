import Derived.Test.YtepdakgfioffgaaGreatG04
import Derived.Test.YtepdakgfioffgaaGreatG01
import Derived.Deep.DeepCutAuto
import Derived.Deep.MidRow
namespace Go.Proofs.YtepdakgfioffgaaGreat
set_option maxRecDepth 100000
set_option maxHeartbeats 8000000
set_option linter.unusedVariables false
set_option linter.unusedSimpArgs false
open Go Go.RowKit
theorem szLogFrameS_any (v : Value) (ps : List StLogFrame) (left : Int) (w : World) (h0 : 0 ≤ left) (h1 : left ≤ 1048576) (hp : RdFr w v ps) :
  Calls Tryz.prog 13 #[v, .int .i64 left] w fun e w' => ∃ r : Int, e = .returned (.int .i64 r) ∧ (r = -1 ∨ (r = left - ps.length - sizeFr ps ∧ 0 ≤ r)) ∧ Same w w' := by
 have hn := hp.row.max
 unfold maxLen at hn
 rcases hp.row.row with ⟨rfl, a, c, rfl⟩ | ⟨b, off, c, rfl, hc⟩
 ·clear hp hn
  go_enter Tryz.func13, Tryz.ntmps13
  go_wp2
  refine wp_loop_rounds 1 ?_
  rw [rounds_succ]
  go_wp2
  go_ret
  exact ⟨_, rfl, .inr ⟨by simp [sizeFr], by omega⟩, Kept.refl _ _⟩
 ·have HP := hid hp
  have HC : Hid (∀ j i, (h : j < ps.length) → i < 16 → w.cell? ⟨b, off + (j * 16 + i), none⟩ = (kFr.cells ps[j])[i]?) := hc
  clear hp hc
  generalize hl : ps.length = len at hn HP ⊢
  have HL : Hid (ps.length = len) := hl
  clear hl
  by_cases h : left < len
  ·go_enter Tryz.func13, Tryz.ntmps13
   go_wp2
   go_ret
   exact ⟨_, rfl, .inl rfl, Kept.refl _ _⟩
  ·go_enter Tryz.func13, Tryz.ntmps13
   go_wp2
   go_loopw [1, 5] (fun u i wr => ∃ (k : Nat) (r : Int), k ≤ len ∧ i = .int .i64 k ∧ u = .int .i64 r ∧ 0 ≤ r ∧ r ≤ left ∧ Hid (r = left - len - sizeFr (ps.take k)) ∧ Hid (Same w wr)) (fun _ i _ => len - (intOf i).toNat)
   case atStart => exact ⟨0, left - len, Nat.zero_le _, rfl, rfl, by omega, by omega, by simp [sizeFr, Hid], Kept.refl _ _⟩
   case round =>
    obtain ⟨k, r, hk, rfl, rfl, EW, pR, HR, HK⟩ := hrel
    by_cases dh : k < len
    ·have gV : k < ps.length := by rw [HL.out]; exact dh
     have pV := hid (sizeFr_step ps k gV)
     have fG := (HP.out.data _ (List.getElem_mem gV)).same HK.out
     obtain ⟨P, hP⟩ : ∃ P, ps[k] = P := ⟨_, rfl⟩
     rw [hP] at pV fG
     have q0 : wr.cell? ⟨b, off + k * 16, none⟩ = some (.int .i64 P.lsn) := HK.out.cellOf (p := ⟨b, off + k * 16, none⟩) (by have h := HC.out k 0 gV (by decide); rw [hP] at h; exact h) id
     have q1 : wr.cell? ⟨b, off + k * 16 + 1, none⟩ = some (.int .i64 P.epoch) := HK.out.cellOf (p := ⟨b, off + k * 16 + 1, none⟩) (by have h := HC.out k 1 gV (by decide); rw [hP, ← Nat.add_assoc] at h; exact h) id
     have q2 : wr.cell? ⟨b, off + k * 16 + 2, none⟩ = some (.int .i64 P.record.kind) := HK.out.cellOf (p := ⟨b, off + k * 16 + 2, none⟩) (by have h := HC.out k 2 gV (by decide); rw [hP, ← Nat.add_assoc] at h; exact h) id
     have q3 : wr.cell? ⟨b, off + k * 16 + 3, none⟩ = some (.int .i64 P.record.txn) := HK.out.cellOf (p := ⟨b, off + k * 16 + 3, none⟩) (by have h := HC.out k 3 gV (by decide); rw [hP, ← Nat.add_assoc] at h; exact h) id
     have q4 : wr.cell? ⟨b, off + k * 16 + 4, none⟩ = some (.int .i64 P.record.prev) := HK.out.cellOf (p := ⟨b, off + k * 16 + 4, none⟩) (by have h := HC.out k 4 gV (by decide); rw [hP, ← Nat.add_assoc] at h; exact h) id
     have q5 : wr.cell? ⟨b, off + k * 16 + 5, none⟩ = some (.int .i64 P.record.page) := HK.out.cellOf (p := ⟨b, off + k * 16 + 5, none⟩) (by have h := HC.out k 5 gV (by decide); rw [hP, ← Nat.add_assoc] at h; exact h) id
     have q6 : wr.cell? ⟨b, off + k * 16 + 6, none⟩ = some (.int .i64 P.record.slot) := HK.out.cellOf (p := ⟨b, off + k * 16 + 6, none⟩) (by have h := HC.out k 6 gV (by decide); rw [hP, ← Nat.add_assoc] at h; exact h) id
     have q7 : wr.cell? ⟨b, off + k * 16 + 7, none⟩ = some (.bool P.record.before.used) := HK.out.cellOf (p := ⟨b, off + k * 16 + 7, none⟩) (by have h := HC.out k 7 gV (by decide); rw [hP, ← Nat.add_assoc] at h; exact h) id
     have q8 : wr.cell? ⟨b, off + k * 16 + 8, none⟩ = some (P.record.before.data.v) := HK.out.cellOf (p := ⟨b, off + k * 16 + 8, none⟩) (by have h := HC.out k 8 gV (by decide); rw [hP, ← Nat.add_assoc] at h; exact h) id
     have q9 : wr.cell? ⟨b, off + k * 16 + 9, none⟩ = some (.bool P.record.after.used) := HK.out.cellOf (p := ⟨b, off + k * 16 + 9, none⟩) (by have h := HC.out k 9 gV (by decide); rw [hP, ← Nat.add_assoc] at h; exact h) id
     have RE : wr.cell? ⟨b, off + k * 16 + 10, none⟩ = some (P.record.after.data.v) := HK.out.cellOf (p := ⟨b, off + k * 16 + 10, none⟩) (by have h := HC.out k 10 gV (by decide); rw [hP, ← Nat.add_assoc] at h; exact h) id
     have UB : wr.cell? ⟨b, off + k * 16 + 11, none⟩ = some (.int .i64 P.record.uN) := HK.out.cellOf (p := ⟨b, off + k * 16 + 11, none⟩) (by have h := HC.out k 11 gV (by decide); rw [hP, ← Nat.add_assoc] at h; exact h) id
     have UL : wr.cell? ⟨b, off + k * 16 + 12, none⟩ = some (.int .i64 P.record.nT) := HK.out.cellOf (p := ⟨b, off + k * 16 + 12, none⟩) (by have h := HC.out k 12 gV (by decide); rw [hP, ← Nat.add_assoc] at h; exact h) id
     have Uq : wr.cell? ⟨b, off + k * 16 + 13, none⟩ = some (P.record.txns.v) := HK.out.cellOf (p := ⟨b, off + k * 16 + 13, none⟩) (by have h := HC.out k 13 gV (by decide); rw [hP, ← Nat.add_assoc] at h; exact h) id
     have Uu : wr.cell? ⟨b, off + k * 16 + 14, none⟩ = some (P.record.dirty.v) := HK.out.cellOf (p := ⟨b, off + k * 16 + 14, none⟩) (by have h := HC.out k 14 gV (by decide); rw [hP, ← Nat.add_assoc] at h; exact h) id
     have S1 : wr.cell? ⟨b, off + k * 16 + 15, none⟩ = some (P.record.image.v) := HK.out.cellOf (p := ⟨b, off + k * 16 + 15, none⟩) (by have h := HC.out k 15 gV (by decide); rw [hP, ← Nat.add_assoc] at h; exact h) id
     have nC := hid fG
     clear fG hP
     go_wp2_with fail
     refine (szLogFrame_any P r _ EW (by omega) nC.out).mono ?_
     rintro e w1 ⟨r1, rfl, jR, bg⟩
     have bq : Hid (Same w w1) := HK.out.trans bg
     clear q0 q1 q2 q3 q4 q5 q6 q7 q8 q9 RE UB UL Uq Uu S1 bg
     rcases jR with rfl | ⟨jR, M3⟩
     ·go_wp2
      go_ret
      exact ⟨_, rfl, .inl rfl, bq.out⟩
     ·have Pk : r1 ≤ left := by have := P.szs_le; omega
      have nk : Hid (r1 = r - P.szs) := jR
      clear jR
      go_wp2
      go_roundw
      case rel => exact ⟨k + 1, r1, by omega, by go_num, rfl, M3, Pk, by have h1 := nk.out; have h2 := HR.out; have h3 := pV.out; unfold Hid; omega, bq⟩
      case measure => simp [intOf]; omega
    ·go_wp2
     go_ret
     obtain rfl : k = len := by omega
     have h1 := HR.out
     have h2 := HL.out
     rw [← h2, List.take_length] at h1
     exact ⟨r, rfl, .inr ⟨by omega, EW⟩, HK.out⟩
theorem Tryz.infoFr : (Tryz.prog.info? 51).map (fun i => (i.zero, i.size, i.bytes)) = some (some (.agg #[.int .i64 0, .int .i64 0, .int .i64 0, .int .i64 0, .int .i64 0, .int .i64 0, .int .i64 0, .bool false, .slice none 0 0, .bool false, .slice none 0 0, .int .i64 0, .int .i64 0, .slice none 0 0, .slice none 0 0, .slice none 0 0]), 16, 208) := by kernel_rfl
theorem toLogFrameS_any (v : Value) (ps : List StLogFrame) (w : World) (hn : ps.length ≤ 1048576) (hs : ∀ p ∈ ps, p.szs ≤ 1073741824) (hv : RdFr w v ps) :
  Calls Tryz.prog 22 #[v] w fun e w' => ∃ g qs, e = .returned (.slice (some ⟨g, 0, none⟩) ps.length ps.length) ∧ datFr qs = datFr ps ∧ szsFr qs = szsFr ps ∧ (∀ b, footFr (.slice (some ⟨g, 0, none⟩) ps.length ps.length) qs b → w.heap.size ≤ b) ∧
   OwnFr w' (.slice (some ⟨g, 0, none⟩) ps.length ps.length) qs ∧ Same w w' := by
 obtain ⟨i0, hi, j9, j0, l9⟩ := info_parts Tryz.infoFr
 rcases hv.row.row with ⟨rfl, a, c, rfl⟩ | ⟨b, off, c, rfl, hc⟩
 ·clear hv hn hs
  go_enter Tryz.func22, Tryz.ntmps22
  go_wp2_with (at_make; refine wpList_make_full _ rfl (.tmp 6) (.tmp 6) 32 rfl 0 51 i0 (.agg #[.int .i64 0, .int .i64 0, .int .i64 0, .int .i64 0, .int .i64 0, .int .i64 0, .int .i64 0, .bool false, .slice none 0 0, .bool false, .slice none 0 0, .int .i64 0, .int .i64 0, .slice none 0 0, .slice none 0 0, .slice none 0 0]) 16 Tryz.underlying32 hi j9 j0 .i64 .i64 _ _ 0 rfl rfl (by simp) (by simp) (by simp) (by simp) (Nat.zero_le _) ?_; intro w1 fU fv; have HO : Hid (OwnR kFr 0 51 5 w1 (.slice (some ⟨w.heap.size, 0, none⟩) 0 0) []) := ownR_made (K := kFr) (zp := zFr) (z := .agg #[.int .i64 0, .int .i64 0, .int .i64 0, .int .i64 0, .int .i64 0, .int .i64 0, .int .i64 0, .bool false, .slice none 0 0, .bool false, .slice none 0 0, .int .i64 0, .int .i64 0, .slice none 0 0, .slice none 0 0, .slice none 0 0]) (by decide) rfl rfl rfl (n := 0) (by first | exact fU | simpa [kFr] using fU); have HK : Hid (Same w w1) := Kept.of_grown fv (fun k e => by cases e); clear fU fv)
  refine wp_loop_rounds 1 ?_
  rw [rounds_succ]
  go_wp2
  go_ret
  refine ⟨w.heap.size, [], rfl, rfl, rfl, fun b hb => ?_, ⟨HO.out, OwnL.nil _, fun b _ h => FootL_nil b h⟩, HK.out⟩
  rcases hb with hb | hb
  ·simp [Value.ownBlock] at hb; omega
  ·exact absurd hb (FootL_nil b)
 ·have HP := hid hv
  have HC : Hid (∀ j i, (h : j < ps.length) → i < 16 → w.cell? ⟨b, off + (j * 16 + i), none⟩ = (kFr.cells ps[j])[i]?) := hc
  have HS : Hid (∀ p ∈ ps, p.szs ≤ 1073741824) := hs
  clear hc hv hs
  generalize hl : ps.length = len at hn HP ⊢
  have HL : Hid (ps.length = len) := hl
  clear hl
  go_enter Tryz.func22, Tryz.ntmps22
  go_wp2_with (at_make; refine wpList_make_full _ rfl (.tmp 6) (.tmp 6) 32 rfl 0 51 i0 (.agg #[.int .i64 0, .int .i64 0, .int .i64 0, .int .i64 0, .int .i64 0, .int .i64 0, .int .i64 0, .bool false, .slice none 0 0, .bool false, .slice none 0 0, .int .i64 0, .int .i64 0, .slice none 0 0, .slice none 0 0, .slice none 0 0]) 16 Tryz.underlying32 hi j9 j0 .i64 .i64 _ _ len rfl rfl (by simp) (by simp) (by rw [l9]; omega) (by unfold maxLen; omega) (Nat.zero_le _) ?_; intro w1 fU fv; have HO : Hid (OwnR kFr 0 51 5 w1 (.slice (some ⟨w.heap.size, 0, none⟩) len len) (List.replicate len zFr)) := ownR_made (K := kFr) (zp := zFr) (z := .agg #[.int .i64 0, .int .i64 0, .int .i64 0, .int .i64 0, .int .i64 0, .int .i64 0, .int .i64 0, .bool false, .slice none 0 0, .bool false, .slice none 0 0, .int .i64 0, .int .i64 0, .slice none 0 0, .slice none 0 0, .slice none 0 0]) (by decide) rfl rfl rfl (by first | exact fU | simpa [kFr] using fU); have HK : Hid (Same w w1) := Kept.of_grown fv (fun k e => by cases e); clear fU fv)
  go_loopw [4] (fun i wr => ∃ (k : Nat) (qs : List StLogFrame), k ≤ len ∧ i = .int .i64 k ∧ qs.length = k ∧ Hid (datFr qs = datFr (ps.take k) ∧ szsFr qs = szsFr (ps.take k)) ∧ Hid (∀ b, FootL (frRows qs) b → w.heap.size < b) ∧ Hid (OwnR kFr 0 51 5 wr (.slice (some ⟨w.heap.size, 0, none⟩) len len) (qs ++ List.replicate (len - k) zFr)) ∧ Hid (OwnL wr (frRows qs)) ∧ Hid (Same w wr)) (fun i _ => len - (intOf i).toNat)
  case atStart => exact ⟨0, [], Nat.zero_le _, rfl, rfl, ⟨rfl, rfl⟩, fun b h => absurd h (FootL_nil b), by simpa using HO, OwnL.nil _, HK⟩
  case round =>
   obtain ⟨k, qs, hk, rfl, I7, HQ, HF, HOr, EL, ef⟩ := hrel
   have kk : Hid (qs.length = k) := I7
   clear I7
   by_cases dh : k < len
   ·have gV : k < ps.length := by rw [HL.out]; exact dh
    have Kq : Hid (List.replicate (len - k) zFr = zFr :: List.replicate (len - (k + 1)) zFr) := by unfold Hid; rw [show len - k = len - (k + 1) + 1 from by omega, List.replicate_succ]
    have hd := (HP.out.data _ (List.getElem_mem gV)).same ef.out
    have Gp := HS.out _ (List.getElem_mem gV)
    have nN := hid (List.take_succ_eq_append_getElem gV)
    obtain ⟨P, hP⟩ : ∃ P, ps[k] = P := ⟨_, rfl⟩
    rw [hP] at hd Gp nN
    obtain ⟨cs, dY⟩ : ∃ cs, kFr.cells P = cs := ⟨_, rfl⟩
    have j7 : cs.length = 16 := by rw [← dY]; exact kFr.len P
    have gW : Hid (wr.rangeAt b (off + k * 16) cs) := fun j v hv => by
     have hj : j < 16 := by have := (List.getElem?_eq_some_iff.1 hv).1; omega
     have h := HC.out k j gV hj
     rw [hP, dY, hv, ← Nat.add_assoc] at h
     exact ef.out.cellOf h id
    have HI : Hid ((Tryz.prog.info? 84).map (·.size) = some cs.length) := by unfold Hid; rw [j7]; kernel_rfl
    have LJ : Hid (Calls Tryz.prog 48 #[.agg cs.toArray] wr fun e w' => ∃ y : StLogFrame, e = .returned y.val ∧ y.dat = P.dat ∧ y.szs = P.szs ∧ (∀ b, FootL y.rows b → wr.heap.size ≤ b) ∧ OwnL w' y.rows ∧ Same wr w') := by rw [← dY]; exact toLogFrame_any P wr Gp hd
    have jr : Hid (len = (qs ++ zFr :: List.replicate (len - (k + 1)) zFr).length) := by unfold Hid; simp [kk.out]; omega
    have UG := (HOr.out.lt w.heap.size (.inl rfl)).2
    clear hd Gp hP dY j7
    go_wp2_with (first | (refine wpList_load_mid rfl 84 _ rfl b (off + k * 16) rfl cs _ gW.out Tryz.underlying84 rfl HI.out ?_))
    refine LJ.out.mono ?_
    rintro e w2 ⟨y, rfl, BM, Oe, An, AH, eC⟩
    have jb : Hid (OwnR kFr 0 51 5 w2 (.slice (some ⟨w.heap.size, 0, none⟩) len len) (qs ++ zFr :: List.replicate (len - (k + 1)) zFr)) := by have h := HOr.out.same eC; rw [Kq.out] at h; exact h
    have cw : Hid (Same w w2) := ef.out.trans eC
    have Oo := (show Hid (∀ b, FootL y.rows b → w.heap.size < b) from fun b hb => by have := An b hb; omega)
    have DZ : Hid (OwnR kFr 0 51 5 (w2.setCells w.heap.size (k * 16) (kFr.cells y)) (.slice (some ⟨w.heap.size, 0, none⟩) len len) (qs ++ y :: List.replicate (len - (k + 1)) zFr)) := jb.out.setElem (p' := y) jr.out (k * 16) (by rw [kk.out]; rfl) (Own.nil _ _ _ _) (fun b hb => by simp [kFr, Value.ownBlock] at hb)
    have Dp : Hid (OwnL (w2.setCells w.heap.size (k * 16) (kFr.cells y)) (frRows (qs ++ [y]))) := by
     unfold Hid
     rw [frRows_append, frRows_cons, show frRows [] = [] from rfl, List.append_nil]
     refine OwnL.kept (R := fun b => b = w.heap.size) ((EL.out.same eC).append AH (fun b h1 h2 => by have h3 := EL.out.lt b h1; have h4 := An b h2; omega)) (Kept.setCells (R := fun b => b = w.heap.size) (.inr rfl) _ _ (Kept.refl _ _)) (fun b hb e => ?_)
     rcases (FootL_append _ _ _).1 hb with h | h
     ·have := HF.out b h; omega
     ·have := Oo.out b h; omega
    have OA : Hid (Same w (w2.setCells w.heap.size (k * 16) (kFr.cells y))) := Kept.setCells (.inl (Nat.le_refl _)) _ _ cw.out
    have Rj := hid BM
    have Uo := hid Oe
    obtain ⟨ds, lR⟩ : ∃ ds, kFr.cells y = ds := ⟨_, rfl⟩
    have oS : ds.length = 16 := by rw [← lR]; exact kFr.len y
    have OZ : y.val = .agg ds.toArray := by rw [← lR]; rfl
    have iW : Hid (ds.toArray.all (·.oneCell') = true) := all_oneCell_toArray (fun v hv => by
     rw [← lR] at hv
     simp only [kFr, StLogFrame.cells, List.mem_cons, List.not_mem_nil, or_false] at hv
     rcases hv with rfl | rfl | rfl | rfl | rfl | rfl | rfl | rfl | rfl | rfl | rfl | rfl | rfl | rfl | rfl | rfl <;> rfl)
    have nH : Hid ((Tryz.prog.info? 51).map (·.size) = some ds.toArray.size) := by unfold Hid; rw [List.size_toArray, oS]; kernel_rfl
    have H9 : Hid (w2.there w.heap.size (k * 16) ds.toArray.size) := fun j hj => by
     rw [List.size_toArray, oS] at hj
     refine ⟨?_, jb.out.frozen jr.out _⟩
     rw [jb.out.cellMid jr.out j hj _ (by rw [kk.out]; rfl), List.getElem?_eq_getElem (by rw [kFr.len]; exact hj)]
     rfl
    rw [OZ]
    rw [lR] at DZ Dp OA
    clear BM Oe An AH eC jb cw HOr EL ef LJ gW HI lR oS OZ
    go_wp2_with (first | (refine wpList_store_mid rfl 51 _ _ rfl w.heap.size (k * 16) ds.toArray rfl rfl H9.out nH.out iW.out ?_; rw [List.toList_toArray]))
    go_roundw
    case rel =>
     refine ⟨k + 1, qs ++ [y], by omega, by go_num, by simp [kk.out], ?_, ?_, ?_, Dp, OA⟩
     ·obtain ⟨h1, h2⟩ := HQ.out
      have h3 := nN.out
      have h4 := Rj.out
      have h5 := Uo.out
      unfold Hid
      rw [h3]
      simp only [datFr, szsFr, List.map_append, List.map_cons, List.map_nil] at h1 h2 ⊢
      rw [h1, h2, h4, h5]
      exact ⟨rfl, rfl⟩
     ·unfold Hid
      intro b hb
      rw [frRows_append, frRows_cons, show frRows [] = [] from rfl, List.append_nil] at hb
      rcases (FootL_append _ _ _).1 hb with h | h
      ·exact HF.out b h
      ·exact Oo.out b h
     ·rw [List.append_assoc]
      exact DZ
    case measure => simp [intOf]; omega
   ·go_wp2
    go_ret
    obtain rfl : k = len := by omega
    have h := HOr.out
    have h2 := HL.out
    obtain ⟨h3, h4⟩ := HQ.out
    rw [Nat.sub_self, List.replicate_zero, List.append_nil] at h
    rw [← h2, List.take_length] at h3 h4
    refine ⟨w.heap.size, qs, rfl, h3, h4, fun b hb => ?_, ⟨h, EL.out, fun b hb hf => ?_⟩, ef.out⟩
    ·rcases hb with hb | hb
     ·simp [Value.ownBlock] at hb; omega
     ·have := HF.out b hb; omega
    ·have h5 := HF.out b hf
     simp [Value.ownBlock] at hb
     omega
theorem markTxnEntryS_own (x : FR) (k0 : Int) (w : World) (h0 : 0 ≤ k0) (h1 : k0 + (x.bs.length : Int) ≤ 1125899906842624) (ha : OwnL w (x.rows 4)) :
  Calls Tryz.prog 37 #[x.v, .int .i64 k0] w fun e w' => e = .returned (.int .i64 (k0 + (x.bs.length : Int))) ∧ OwnL w' ((x.marked k0).rows 4) ∧ Kept (FootL (x.rows 4)) w w' := by
 have hl := FR.own_len ha
 have hf := FR.own_form ha
 obtain ⟨xe, xa, xn, xc, bs⟩ := x
 dsimp only [FR.v] at *
 have HA := (show Hid (OwnL w (FR.rows 4 ⟨xe, xa, xn, xc, bs⟩)) from ha)
 clear ha
 rcases hf with ⟨rfl, rfl, rfl⟩ | ⟨g, rfl, CX, ui, ho⟩
 ·obtain rfl : bs = [] := List.length_eq_zero_iff.1 (by omega)
  clear hl
  go_enter Tryz.func37, Tryz.ntmps37
  go_wp2
  refine wp_loop_rounds 1 ?_
  rw [rounds_succ]
  go_wp2
  go_ret
  exact ⟨by simp, HA.out, Kept.refl _ _⟩
 ·have HL := (show Hid (bs.length = xn * 4) from hl)
  have pM := (show Hid (OwnF 4 xe w g xn xc bs) from ho)
  rw [hl] at h1 ⊢
  have uy : k0 + (xn : Int) * 4 ≤ 1125899906842624 := by simpa using h1
  unfold maxLen at ui
  clear ho hl HA h1
  go_enter Tryz.func37, Tryz.ntmps37
  go_wp2
  go_loopw [1, 5] (fun v i wr => ∃ k : Nat, k ≤ xn ∧ i = .int .i64 k ∧ v = .int .i64 (k0 + (k : Int) * 4) ∧ Hid (OwnF 4 xe wr g xn xc (partI k0 bs (k * 4))) ∧ Hid (Kept (fun b => b = g) w wr)) (fun _ i _ => xn - (intOf i).toNat)
  case atStart => exact ⟨0, Nat.zero_le _, rfl, by simp, by rw [Nat.zero_mul, partI_zero]; exact pM, Kept.refl _ _⟩
  case round =>
   obtain ⟨k, hk, rfl, rfl, HO, HK⟩ := hrel
   by_cases dh : k < xn
   ·have c0 := HO.out.cell (k * 4) (by omega)
    have f0 := HO.out.frozen (k * 4)
    have c1 := HO.out.cell (k * 4 + 1) (by omega)
    have f1 := HO.out.frozen (k * 4 + 1)
    have c2 := HO.out.cell (k * 4 + 2) (by omega)
    have f2 := HO.out.frozen (k * 4 + 2)
    have c3 := HO.out.cell (k * 4 + 3) (by omega)
    have f3 := HO.out.frozen (k * 4 + 3)
    go_wp2
    go_roundw
    case rel =>
     have hl := HL.out
     have q0 := HO.out
     have q1 := q0.stored (k * 4) (k0 + ((k * 4 : Nat) : Int))
     rw [partI_step _ _ _ (by omega)] at q1
     have q2 := q1.stored (k * 4 + 1) (k0 + ((k * 4 + 1 : Nat) : Int))
     rw [partI_step _ _ _ (by omega)] at q2
     have q3 := q2.stored (k * 4 + 2) (k0 + ((k * 4 + 2 : Nat) : Int))
     rw [partI_step _ _ _ (by omega)] at q3
     have q4 := q3.stored (k * 4 + 3) (k0 + ((k * 4 + 3 : Nat) : Int))
     rw [partI_step _ _ _ (by omega)] at q4
     refine ⟨k + 1, by omega, by go_num, by go_num, ?_, ?_⟩
     ·rw [show (k + 1) * 4 = k * 4 + 1 + 1 + 1 + 1 from by omega]; simpa [Hid, Int.add_assoc] using q4
     ·exact ((((HK.out.setCell (.inr rfl) _).setCell (.inr rfl) _).setCell (.inr rfl) _).setCell (.inr rfl) _)
    case measure => simp [intOf]; omega
   ·go_wp2
    go_ret
    obtain rfl : k = xn := by omega
    have h := HO.out
    rw [← HL.out, partI_all] at h
    refine ⟨ret_int (by push_cast; rfl), ?_, HK.out.mono (fun b _ hb => (FootL_one _ _).2 (by simp [FR.v, Value.ownBlock, hb]))⟩
    exact h.out
theorem heldTxnEntryS_own (x : FR) (k0 : Int) (w : World) (h0 : 0 ≤ k0) (h1 : k0 + (x.bs.length : Int) ≤ 1125899906842624) (ha : OwnL w ((x.marked k0).rows 4)) :
  Calls Tryz.prog 40 #[x.v, .int .i64 k0] w fun e w' => e = .returned (.int .i64 (k0 + (x.bs.length : Int))) ∧ Same w w' := by
 have hl := FR.own_len ha
 have hf := FR.own_form ha
 obtain ⟨xe, xa, xn, xc, bs⟩ := x
 dsimp only [FR.v, FR.marked] at *
 rw [marksI_length] at hl
 clear ha
 rcases hf with ⟨rfl, rfl, rfl⟩ | ⟨g, rfl, CX, ui, ho⟩
 ·obtain rfl : bs = [] := List.length_eq_zero_iff.1 (by omega)
  clear hl
  go_enter Tryz.func40, Tryz.ntmps40
  go_wp2
  refine wp_loop_rounds 1 ?_
  rw [rounds_succ]
  go_wp2
  go_ret
  exact ⟨by simp, Kept.refl _ _⟩
 ·have hc : ∀ j, j < xn * 4 → w.cell? ⟨g, j, none⟩ = some (.int .i64 (k0 + j)) := fun j hj => by
   rw [ho.cell j hj, marksI_at _ _ _ (by omega)]
  rw [hl] at h1 ⊢
  have uy : k0 + (xn : Int) * 4 ≤ 1125899906842624 := by simpa using h1
  unfold maxLen at ui
  clear ho h1
  go_enter Tryz.func40, Tryz.ntmps40
  go_wp2
  go_loop [1, 5] (fun v i => ∃ k : Nat, k ≤ xn ∧ i = .int .i64 k ∧ v = .int .i64 (k0 + (k : Int) * 4)) (fun _ i => xn - (intOf i).toNat)
  case atStart => exact ⟨0, Nat.zero_le _, rfl, by simp⟩
  case round =>
   obtain ⟨k, hk, rfl, rfl⟩ := hrel
   by_cases dh : k < xn
   ·have c0 : w.cell? ⟨g, k * 4, none⟩ = some (.int .i64 (k0 + (k : Int) * 4)) := by rw [hc (k * 4) (by omega)]; congr 2 <;> (push_cast; omega)
    have c1 : w.cell? ⟨g, k * 4 + 1, none⟩ = some (.int .i64 (k0 + (k : Int) * 4 + 1)) := by rw [hc (k * 4 + 1) (by omega)]; congr 2 <;> (push_cast; omega)
    have c2 : w.cell? ⟨g, k * 4 + 2, none⟩ = some (.int .i64 (k0 + (k : Int) * 4 + 2)) := by rw [hc (k * 4 + 2) (by omega)]; congr 2 <;> (push_cast; omega)
    have c3 : w.cell? ⟨g, k * 4 + 3, none⟩ = some (.int .i64 (k0 + (k : Int) * 4 + 3)) := by rw [hc (k * 4 + 3) (by omega)]; congr 2 <;> (push_cast; omega)
    clear hc
    go_wp2
    go_round
    case rel => exact ⟨k + 1, by omega, by go_num, by go_num⟩
    case measure => simp [intOf]; omega
   ·go_wp2
    go_ret
    obtain rfl : k = xn := by omega
    exact ⟨ret_int (by push_cast; rfl), Kept.refl _ _⟩
theorem markDirtyEntryS_own (x : FR) (k0 : Int) (w : World) (h0 : 0 ≤ k0) (h1 : k0 + (x.bs.length : Int) ≤ 1125899906842624) (ha : OwnL w (x.rows 2)) :
  Calls Tryz.prog 38 #[x.v, .int .i64 k0] w fun e w' => e = .returned (.int .i64 (k0 + (x.bs.length : Int))) ∧ OwnL w' ((x.marked k0).rows 2) ∧ Kept (FootL (x.rows 2)) w w' := by
 have hl := FR.own_len ha
 have hf := FR.own_form ha
 obtain ⟨xe, xa, xn, xc, bs⟩ := x
 dsimp only [FR.v] at *
 have HA := (show Hid (OwnL w (FR.rows 2 ⟨xe, xa, xn, xc, bs⟩)) from ha)
 clear ha
 rcases hf with ⟨rfl, rfl, rfl⟩ | ⟨g, rfl, CX, ui, ho⟩
 ·obtain rfl : bs = [] := List.length_eq_zero_iff.1 (by omega)
  clear hl
  go_enter Tryz.func38, Tryz.ntmps38
  go_wp2
  refine wp_loop_rounds 1 ?_
  rw [rounds_succ]
  go_wp2
  go_ret
  exact ⟨by simp, HA.out, Kept.refl _ _⟩
 ·have HL := (show Hid (bs.length = xn * 2) from hl)
  have pM := (show Hid (OwnF 2 xe w g xn xc bs) from ho)
  rw [hl] at h1 ⊢
  have uy : k0 + (xn : Int) * 2 ≤ 1125899906842624 := by simpa using h1
  unfold maxLen at ui
  clear ho hl HA h1
  go_enter Tryz.func38, Tryz.ntmps38
  go_wp2
  go_loopw [1, 5] (fun v i wr => ∃ k : Nat, k ≤ xn ∧ i = .int .i64 k ∧ v = .int .i64 (k0 + (k : Int) * 2) ∧ Hid (OwnF 2 xe wr g xn xc (partI k0 bs (k * 2))) ∧ Hid (Kept (fun b => b = g) w wr)) (fun _ i _ => xn - (intOf i).toNat)
  case atStart => exact ⟨0, Nat.zero_le _, rfl, by simp, by rw [Nat.zero_mul, partI_zero]; exact pM, Kept.refl _ _⟩
  case round =>
   obtain ⟨k, hk, rfl, rfl, HO, HK⟩ := hrel
   by_cases dh : k < xn
   ·have c0 := HO.out.cell (k * 2) (by omega)
    have f0 := HO.out.frozen (k * 2)
    have c1 := HO.out.cell (k * 2 + 1) (by omega)
    have f1 := HO.out.frozen (k * 2 + 1)
    go_wp2
    go_roundw
    case rel =>
     have hl := HL.out
     have q0 := HO.out
     have q1 := q0.stored (k * 2) (k0 + ((k * 2 : Nat) : Int))
     rw [partI_step _ _ _ (by omega)] at q1
     have q2 := q1.stored (k * 2 + 1) (k0 + ((k * 2 + 1 : Nat) : Int))
     rw [partI_step _ _ _ (by omega)] at q2
     refine ⟨k + 1, by omega, by go_num, by go_num, ?_, ?_⟩
     ·rw [show (k + 1) * 2 = k * 2 + 1 + 1 from by omega]; simpa [Hid, Int.add_assoc] using q2
     ·exact ((HK.out.setCell (.inr rfl) _).setCell (.inr rfl) _)
    case measure => simp [intOf]; omega
   ·go_wp2
    go_ret
    obtain rfl : k = xn := by omega
    have h := HO.out
    rw [← HL.out, partI_all] at h
    refine ⟨ret_int (by push_cast; rfl), ?_, HK.out.mono (fun b _ hb => (FootL_one _ _).2 (by simp [FR.v, Value.ownBlock, hb]))⟩
    exact h.out
theorem heldDirtyEntryS_own (x : FR) (k0 : Int) (w : World) (h0 : 0 ≤ k0) (h1 : k0 + (x.bs.length : Int) ≤ 1125899906842624) (ha : OwnL w ((x.marked k0).rows 2)) :
  Calls Tryz.prog 41 #[x.v, .int .i64 k0] w fun e w' => e = .returned (.int .i64 (k0 + (x.bs.length : Int))) ∧ Same w w' := by
 have hl := FR.own_len ha
 have hf := FR.own_form ha
 obtain ⟨xe, xa, xn, xc, bs⟩ := x
 dsimp only [FR.v, FR.marked] at *
 rw [marksI_length] at hl
 clear ha
 rcases hf with ⟨rfl, rfl, rfl⟩ | ⟨g, rfl, CX, ui, ho⟩
 ·obtain rfl : bs = [] := List.length_eq_zero_iff.1 (by omega)
  clear hl
  go_enter Tryz.func41, Tryz.ntmps41
  go_wp2
  refine wp_loop_rounds 1 ?_
  rw [rounds_succ]
  go_wp2
  go_ret
  exact ⟨by simp, Kept.refl _ _⟩
 ·have hc : ∀ j, j < xn * 2 → w.cell? ⟨g, j, none⟩ = some (.int .i64 (k0 + j)) := fun j hj => by
   rw [ho.cell j hj, marksI_at _ _ _ (by omega)]
  rw [hl] at h1 ⊢
  have uy : k0 + (xn : Int) * 2 ≤ 1125899906842624 := by simpa using h1
  unfold maxLen at ui
  clear ho h1
  go_enter Tryz.func41, Tryz.ntmps41
  go_wp2
  go_loop [1, 5] (fun v i => ∃ k : Nat, k ≤ xn ∧ i = .int .i64 k ∧ v = .int .i64 (k0 + (k : Int) * 2)) (fun _ i => xn - (intOf i).toNat)
  case atStart => exact ⟨0, Nat.zero_le _, rfl, by simp⟩
  case round =>
   obtain ⟨k, hk, rfl, rfl⟩ := hrel
   by_cases dh : k < xn
   ·have c0 : w.cell? ⟨g, k * 2, none⟩ = some (.int .i64 (k0 + (k : Int) * 2)) := by rw [hc (k * 2) (by omega)]; congr 2 <;> (push_cast; omega)
    have c1 : w.cell? ⟨g, k * 2 + 1, none⟩ = some (.int .i64 (k0 + (k : Int) * 2 + 1)) := by rw [hc (k * 2 + 1) (by omega)]; congr 2 <;> (push_cast; omega)
    clear hc
    go_wp2
    go_round
    case rel => exact ⟨k + 1, by omega, by go_num, by go_num⟩
    case measure => simp [intOf]; omega
   ·go_wp2
    go_ret
    obtain rfl : k = xn := by omega
    exact ⟨ret_int (by push_cast; rfl), Kept.refl _ _⟩
end Go.Proofs.YtepdakgfioffgaaGreat
