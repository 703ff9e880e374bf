import Derived.Test.YtaojjcnmififoaaGreatG27
import Derived.Test.YtaojjcnmififoaaGreatG01
import Derived.Test.YtaojjcnmififoaaGreatG09
import Derived.Test.YtaojjcnmififoaaGreatG08
import Derived.Test.YtaojjcnmififoaaGreatG00
import Derived.Deep.AppendLies
import Derived.Deep.MidRow
import Derived.Deep.DeepCutAuto
namespace Go.Proofs.YtaojjcnmififoaaGreat
set_option maxRecDepth 100000
set_option maxHeartbeats 8000000
set_option linter.unusedVariables false
set_option linter.unusedSimpArgs false
open Go.RowKit
theorem jdQ {rs : List Int} (hB : IsB rs) : -1 ≤ nI rs 2 ∧ nI rs 2 ≤ 65535 := by
 have hb : IsB (rs.take 2) := fun x hx => hB x (List.mem_of_mem_take hx)
 have hl : (rs.take 2).length ≤ 2 := by rw [List.length_take]; omega
 unfold nI
 match hm : rs.take 2, hl with
 | [], _ => unfold RQ; simp
 | [a], _ =>
  have ha := hb a (by rw [hm]; simp)
  have hn : num [a] = a := by simp [num]
  unfold RQ
  rw [hn, if_neg (by simp only [List.length_cons, List.length_nil]; omega)]
  omega
 | [a, b], _ =>
  have ha := hb a (by rw [hm]; simp)
  have iq := hb b (by rw [hm]; simp)
  have hn : num [a, b] = a * 256 + b := by simp [num]
  unfold RQ
  rw [hn, if_neg (by simp only [List.length_cons, List.length_nil]; omega)]
  omega
theorem jal {rs : List Int} (hB : IsB rs) : -1 ≤ nI rs 1 ∧ nI rs 1 ≤ 255 := by
 have hb : IsB (rs.take 1) := fun x hx => hB x (List.mem_of_mem_take hx)
 have hl : (rs.take 1).length ≤ 1 := by rw [List.length_take]; omega
 unfold nI
 match hm : rs.take 1, hl with
 | [], _ => unfold RQ; simp
 | [a], _ =>
  have ha := hb a (by rw [hm]; simp)
  have hn : num [a] = a := by simp [num]
  unfold RQ
  rw [hn, if_neg (by simp only [List.length_cons, List.length_nil]; omega)]
  omega
def slI (rs : List Int) : (Bool × List Int) × List Int := Sz nI (fun rs n => rs.take n) rs
theorem IsB.dropI {xs : List Int} (n : Nat) (h : IsB xs) : IsB (xs.drop n) := fun x hx => h x (List.mem_of_mem_drop hx)
theorem Xo {rs : List Int} (h : IsB rs) : IsB (slI rs).1.2 ∧ IsB (slI rs).2 ∧ (slI rs).1.2.length ≤ 65535 ∧ (slI rs).2.length ≤ rs.length := by
 unfold slI Sz
 split
 ·have h2 := jdQ (h.dropI 1)
  refine ⟨fun x hx => h.dropI 3 x (List.mem_of_mem_take hx), (h.dropI 3).dropI _, ?_, ?_⟩
  ·simp only [List.length_take]; omega
  ·simp only [List.length_drop]; omega
 ·exact ⟨fun x hx => by simp at hx, h.dropI 1, by simp, by simp only [List.length_drop]; omega⟩
def Low (B0 : Nat) (w : World) (v : Value) (bs : List Int) : Prop := ∀ wy, Kept (fun b => B0 ≤ b) w wy → Rd .u8 wy v bs
theorem Low.keep {F : Nat → Prop} {B0 : Nat} {w wy : World} {v : Value} {bs : List Int} (h : Low B0 w v bs) (hk : Kept F w wy) (hF : ∀ b, b < w.heap.size → F b → B0 ≤ b) : Low B0 wy v bs := fun wz hz => h wz ((hk.mono hF).trans hz)
theorem Low.rd {B0 : Nat} {w : World} {v : Value} {bs : List Int} (h : Low B0 w v bs) : Rd .u8 w v bs := h w kZ0
theorem jam {w : World} {B0 P : Nat} {rs : List Int} (hB : IsB rs) (hl : rs.length ≤ 1099511627776) (Bi : B0 ≤ w.heap.size) (h : RI w B0 P rs) :
  Calls Tryz.prog 84 #[.pointer (some ⟨P, 0, none⟩)] w fun e w' => ∃ y : StPageRecord, e = .returned y.val ∧ y.dat = (slI rs).1 ∧ Low B0 w' y.data.v y.data.bs ∧ RI w' B0 P (slI rs).2 ∧ Kept (fun b => b = P) w w' := by
 have vV := h.lt
 have G7 := h.le
 have du : Same w (w.alloc (.cells #[.bool false, .slice none 0 0] 46)) := kZ0.alloc _
 have bm := hid (Blk.newL w [.bool false, .slice none 0 0] 46)
 have aJ := hid du
 have H0 := hid (h.same du)
 clear h du
 go_enter Tryz.func84, Tryz.ntmps84
 go_wp2_with fail
 refine (RX 1 (by omega) hB hl H0.out).mono ?_
 rintro e w1 ⟨rfl, lk, aH⟩
 have fW : ¬ w.heap.size = P := by omega
 have bf := hid (bm.out.kept aH fW)
 have fU := hid lk
 have aM := (show Hid (Kept (fun b => b = P) w w1) from (aJ.out.mono (fun _ _ e => e.elim)).trans aH)
 obtain ⟨x, hx⟩ : ∃ x, nI rs 1 = x := ⟨_, rfl⟩
 rw [hx]
 clear lk aH H0 aJ bm
 by_cases h1 : x = 1
 ·subst h1
  obtain ⟨n, hn⟩ : ∃ n, nI (rs.drop 1) 2 = n := ⟨_, rfl⟩
  have Jo := jdQ (hB.dropI 1)
  have HE := (show Hid (slI rs = ((true, (rs.drop 3).take n.toNat), (rs.drop 3).drop n.toNat)) from by unfold Hid slI Sz; rw [if_pos hx, hn])
  have k2 := RX 2 (by omega) (hB.dropI 1) (by rw [List.length_drop]; omega) fU.out
  rw [hn, List.drop_drop] at k2
  rw [hn] at Jo
  clear hx hn
  go_wp2_with fail
  refine k2.mono ?_
  rintro e w2 ⟨rfl, b9, aN⟩
  have cm := hid (bf.out.kept aN fW)
  have jD := hid b9
  have aY := hid (aM.out.trans aN)
  clear b9 aN k2 bf fU aM
  go_wp2_with fail
  refine (jak n ⟨Jo.1, by omega⟩ (by rw [List.length_drop]; omega) jD.out).mono ?_
  rintro e w3 ⟨a, c, rfl, GR, rY, fq⟩
  obtain ⟨db, B2⟩ : ∃ x, (rs.drop 3).take n.toNat = x := ⟨_, rfl⟩
  rw [B2] at HE GR ⊢
  have dL := cm.out.lt
  have fo := hid (cm.out.kept fq fW)
  have gL : Kept (fun b => b = w.heap.size) w3 ((w3.setCell ⟨w.heap.size, 0, none⟩ (.bool true)).setCell ⟨w.heap.size, 1, none⟩ (.slice a db.length c)) := ((Kept.refl (fun b => b = w.heap.size) w3).setCell (p := ⟨w.heap.size, 0, none⟩) (.inr rfl) _).setCell (p := ⟨w.heap.size, 1, none⟩) (.inr rfl) _
  have LR := (show Hid (Low B0 ((w3.setCell ⟨w.heap.size, 0, none⟩ (.bool true)).setCell ⟨w.heap.size, 1, none⟩ (.slice a db.length c)) (.slice a db.length c) db) from Low.keep GR gL (fun b _ e => by omega))
  have kb := (show Hid (RI ((w3.setCell ⟨w.heap.size, 0, none⟩ (.bool true)).setCell ⟨w.heap.size, 1, none⟩ (.slice a db.length c)) B0 P ((rs.drop 3).drop n.toNat)) from rY.keep gL (fun e => fW e.symm) (fun b _ e => by omega))
  have cu := hid ((aY.out.trans fq).next gL (fun i hi e => by omega))
  obtain ⟨c0, c1⟩ := fo.out.all2
  have fb := fo.out.frozen
  clear GR rY fq gL fo cm jD aY B2
  go_wp2_with fail
  refine bodyPost_ret (v := .agg #[.bool true, .slice a db.length c]) (by simp [results, Tryz.results84, go_sem, c0, c1]) rfl ?_
  rw [HE.out]
  exact ⟨⟨true, ⟨5, a, c, db⟩⟩, rfl, rfl, LR.out, kb.out, cu.out⟩
 ·have GM : (x != 1) = true := bne_iff_ne.2 h1
  have HE := (show Hid (slI rs = ((false, []), rs.drop 1)) from if_neg (by rw [hx]; exact h1))
  obtain ⟨c0, c1⟩ := bf.out.all2
  have fb := bf.out.frozen
  have gL : ∀ v0 v1, Kept (fun b => b = w.heap.size) w1 ((w1.setCell ⟨w.heap.size, 0, none⟩ v0).setCell ⟨w.heap.size, 1, none⟩ v1) := fun _ _ => ((Kept.refl (fun b => b = w.heap.size) w1).setCell (.inr rfl) _).setCell (.inr rfl) _
  have kJ := hid gL
  clear gL hx
  go_wp2_with fail
  refine bodyPost_ret (v := .agg #[.bool false, .slice none 0 0]) (by simp [results, Tryz.results84, go_sem, c0, c1]) rfl ?_
  rw [HE.out]
  refine ⟨⟨false, ⟨0, none, 0, []⟩⟩, rfl, rfl, fun wy hy => (Own.nil 0 0 .u8 wy).rd, ?_, ?_⟩
  ·first
   | exact fU.out
   | exact fU.out.keep (kJ.out (.bool false) (.slice none 0 0)) (fun e => fW e.symm) (fun b _ e => by omega)
  ·first | exact aM.out | exact aM.out.next (kJ.out _ _) (fun i hi e => by omega)
theorem jcY {e : TypeId} {w : World} {g n c : Nat} {bs : List Int} {x y z u : Int} (h : w.ownsRow 0 e 4 (.slice (some ⟨g, 0, none⟩) n c) n (vals .i64 bs ++ [.int .i64 x, .int .i64 y, .int .i64 z, .int .i64 u])) : OwnL w (FR.rows 4 ⟨e, some ⟨g, 0, none⟩, n, c, bs ++ [x, y, z, u]⟩) :=
 OwnF.out (by
  have e1 : vals .i64 bs ++ [.int .i64 x, .int .i64 y, .int .i64 z, .int .i64 u] = vals .i64 (bs ++ [x, y, z, u]) := by simp [vals]
  rw [e1] at h
  exact h)
theorem jcZ {e : TypeId} {w : World} {g n c : Nat} {bs : List Int} {x y : Int} (h : w.ownsRow 0 e 2 (.slice (some ⟨g, 0, none⟩) n c) n (vals .i64 bs ++ [.int .i64 x, .int .i64 y])) : OwnL w (FR.rows 2 ⟨e, some ⟨g, 0, none⟩, n, c, bs ++ [x, y]⟩) :=
 OwnF.out (by
  have e1 : vals .i64 bs ++ [.int .i64 x, .int .i64 y] = vals .i64 (bs ++ [x, y]) := by simp [vals]
  rw [e1] at h
  exact h)
theorem jc0 (num : List Int → Nat → Int) (r : List Int) (j : Nat) : txL num r (j + 1) = txL num r j ++ txE num r j := by unfold txL; rw [List.range_succ, List.flatMap_append]; simp
theorem jc1 (num : List Int → Nat → Int) (r : List Int) (j : Nat) : dyL num r (j + 1) = dyL num r j ++ dyE num r j := by unfold dyL; rw [List.range_succ, List.flatMap_append]; simp
theorem Uc (m : Nat) (e : TypeId) (w : World) : OwnL w (FR.rows m ⟨e, none, 0, 0, []⟩) :=
 ⟨fun r hr => by rw [List.mem_singleton.1 hr]; exact ⟨by simp [vals], .inl ⟨rfl, rfl⟩⟩, List.pairwise_singleton _ _⟩
theorem ja8 : (Tryz.prog.info? 96).map (fun i => (i.zero, i.size, i.bytes)) = some (some (.agg #[.int .i64 0, .int .i64 0, .int .i64 0, .int .i64 0]), 4, 32) := by kernel_rfl
theorem Yq : (Tryz.prog.info? 98).map (fun i => (i.zero, i.size, i.bytes)) = some (some (.agg #[.int .i64 0, .int .i64 0]), 2, 16) := by kernel_rfl
theorem jeR {w : World} {B0 P : Nat} {rs : List Int} (hB : IsB rs) (hl : rs.length ≤ 1099511627776) (Bi : B0 ≤ w.heap.size) (h : RI w B0 P rs) :
  Calls Tryz.prog 85 #[.pointer (some ⟨P, 0, none⟩)] w fun e w' => ∃ a n c, e = .returned (.slice a n c) ∧ n = (nI rs 1).toNat ∧ OwnL w' (FR.rows 4 ⟨96, a, n, c, txL nI (rs.drop 1) n⟩) ∧ (∀ b, (Value.slice a n c).ownBlock = some b → w.heap.size ≤ b) ∧ RI w' B0 P ((rs.drop 1).drop (21 * n)) ∧ Kept (fun b => b = P) w w' := by
 have vV := h.lt
 have G7 := h.le
 have k1 := RX 1 (by omega) hB hl h
 obtain ⟨i0, hi, eT, fM, tT⟩ := info_parts ja8
 have hx := jal hB
 obtain ⟨x, tF⟩ : ∃ x, nI rs 1 = x := ⟨_, rfl⟩
 rw [tF] at hx k1 ⊢
 obtain ⟨N, hN⟩ : ∃ N, x.toNat = N := ⟨_, rfl⟩
 have Nr := hid hN
 have Lj : N ≤ 255 := by omega
 have oL : ∀ j : Nat, (j : Int) < x ↔ j < N := fun j => by omega
 have rH := hid oL
 obtain ⟨r1, hr⟩ : ∃ r1, rs.drop 1 = r1 := ⟨_, rfl⟩
 have bf := (show Hid (IsB r1) from hr ▸ hB.dropI 1)
 have uB : r1.length ≤ 1099511627776 := by rw [← hr, List.length_drop]; omega
 rw [hr] at k1 ⊢
 rw [hN]
 clear tF hN hr hB hl oL h
 go_enter Tryz.func85, Tryz.ntmps85
 go_wp2_with fail
 refine k1.mono ?_
 rintro e w1 ⟨rfl, lk, aH⟩
 have fU := hid lk
 have aM := hid aH
 clear lk aH k1
 go_wp2_with fail
 go_loopw [3, 6] (fun sv iv wr => ∃ (j : Nat) (a : Option Addr) (c : Nat), j ≤ N ∧ sv = .slice a j c ∧ iv = .int .i64 j ∧ Hid (OwnL wr (FR.rows 4 ⟨96, a, j, c, txL nI r1 j⟩)) ∧ Hid (∀ b, (Value.slice a j c).ownBlock = some b → w.heap.size ≤ b) ∧ Hid (RI wr B0 P (r1.drop (21 * j))) ∧ Hid (Kept (fun b => b = P) w wr)) (fun _ iv _ => N - (intOf iv).toNat)
 case atStart => exact ⟨0, none, 0, Nat.zero_le _, rfl, rfl, Uc _ _ _, fun b hb => by simp [Value.ownBlock] at hb, fU, aM⟩
 case round =>
  obtain ⟨j, a, c, hj, rfl, rfl, HO, HF, HR, HK⟩ := hrel
  have nR := hx
  by_cases bH : j < N
  ·have G4 : (j : Int) < x := (rH.out j).2 bH
   clear hx
   go_wp2_with fail
   refine (RX 4 (by omega) (bf.out.dropI _) (by simp only [List.length_drop]; omega) HR.out).mono ?_
   rintro e v0 ⟨rfl, b9, aN⟩
   obtain ⟨y0, iu⟩ : ∃ y, nI (r1.drop (21 * j)) 4 = y := ⟨_, rfl⟩
   rw [iu]
   have tG := (show Hid (RI v0 B0 P ((r1.drop (21 * j)).drop 4)) from by have h := b9; simp only [List.drop_drop] at h ⊢; exact h)
   have aJ := hid (HK.out.trans aN)
   have iQ := hid (HO.out.kept aN (fun b hb e => by have := HF.out b ((Rw _ _).1 hb); omega))
   clear b9 aN HR HK HO
   go_wp2_with fail
   refine (RX 1 (by omega) ((bf.out.dropI _).dropI _) (by simp only [List.length_drop]; omega) tG.out).mono ?_
   rintro e v1 ⟨rfl, b9, aN⟩
   obtain ⟨y1, gZ⟩ : ∃ y, nI ((r1.drop (21 * j)).drop 4) 1 = y := ⟨_, rfl⟩
   rw [gZ]
   have fU := (show Hid (RI v1 B0 P ((r1.drop (21 * j)).drop 5)) from by have h := b9; simp only [List.drop_drop] at h ⊢; exact h)
   have aM := hid (aJ.out.trans aN)
   have gP := hid (iQ.out.kept aN (fun b hb e => by have := HF.out b ((Rw _ _).1 hb); omega))
   clear b9 aN tG aJ iQ
   go_wp2_with fail
   refine (RX 8 (by omega) ((bf.out.dropI _).dropI _) (by simp only [List.length_drop]; omega) fU.out).mono ?_
   rintro e v2 ⟨rfl, b9, aN⟩
   obtain ⟨y2, wX⟩ : ∃ y, nI ((r1.drop (21 * j)).drop 5) 8 = y := ⟨_, rfl⟩
   rw [wX]
   have jD := (show Hid (RI v2 B0 P ((r1.drop (21 * j)).drop 13)) from by have h := b9; simp only [List.drop_drop] at h ⊢; exact h)
   have aY := hid (aM.out.trans aN)
   have eF := hid (gP.out.kept aN (fun b hb e => by have := HF.out b ((Rw _ _).1 hb); omega))
   clear b9 aN fU aM gP
   go_wp2_with fail
   refine (RX 8 (by omega) ((bf.out.dropI _).dropI _) (by simp only [List.length_drop]; omega) jD.out).mono ?_
   rintro e v3 ⟨rfl, b9, aN⟩
   obtain ⟨y3, wW⟩ : ∃ y, nI ((r1.drop (21 * j)).drop 13) 8 = y := ⟨_, rfl⟩
   rw [wW]
   have vk := (show Hid (RI v3 B0 P ((r1.drop (21 * j)).drop 21)) from by have h := b9; simp only [List.drop_drop] at h ⊢; exact h)
   have dt := hid (aY.out.trans aN)
   have fy := hid (eF.out.kept aN (fun b hb e => by have := HF.out b ((Rw _ _).1 hb); omega))
   clear b9 aN jD aY eF
   have HA := (show Hid (Same v3 (v3.alloc (.cells #[.int .i64 y0, .int .i64 y1, .int .i64 y2, .int .i64 y3] 96))) from kZ0.alloc _)
   have Cv := hid ((fy.out.same HA.out).1 _ (List.mem_singleton.2 rfl))
   have rW := (show Hid (Blk (v3.alloc (.cells #[.int .i64 y0, .int .i64 y1, .int .i64 y2, .int .i64 y3] 96)) v3.heap.size 96 [.int .i64 y0, .int .i64 y1, .int .i64 y2, .int .i64 y3]) from Blk.newL v3 [.int .i64 y0, .int .i64 y1, .int .i64 y2, .int .i64 y3] 96)
   have gE := dt.out.size
   go_wp2_with (at_builtin; go_loud (refine wpList_append_lies _ rfl (.tmp 8) (.tmp 18) 47 rfl 0 96 i0 _ 4 32 Tryz.underlying47 hi eT fM tT rfl (by omega) (.slice a j c) j (vals .i64 (txL nI r1 j)) rfl (by exact Cv.out) ⟨v3.heap.size, 0, none⟩ 1 1 [.int .i64 y0, .int .i64 y1, .int .i64 y2, .int .i64 y3] rfl rfl (World.news_of_block (cs := #[.int .i64 y0, .int .i64 y1, .int .i64 y2, .int .i64 y3]) (t := 96) (fr := (0, 0)) (by exact rW.out)) (by simp [Value.oneCell']) (by omega) (by unfold maxLen; omega) (by omega) (Nat.zero_le _) (v3.heap.size + 1) (by simp) ?_); intro g5 ov w9 fp et je uF; have zj := (show Hid (Kept (fun k => (Value.slice a j c).ownBlock = some k) (v3.alloc (.cells #[.int .i64 y0, .int .i64 y1, .int .i64 y2, .int .i64 y3] 96)) w9) from Kept.of_grown et (fun k e => e)); have j9 := hid (jcY fp); have fA := hid je; clear fp et je)
   go_roundw
   case rel =>
    refine ⟨j + 1, _, _, by omega, rfl, by go_num, ?_, ?_, ?_, ?_⟩
    ·have e9 : txL nI r1 (j + 1) = txL nI r1 j ++ [y0, y1, y2, y3] := by
      rw [jc0]
      congr 1
      simp only [List.drop_drop] at iu gZ wX wW
      unfold txE
      rw [iu, gZ, wX, wW]
     rw [e9]
     exact j9
    ·intro b hb
     have e : g5 = b := by simpa [Value.ownBlock] using hb
     subst e
     exact fA.out.elim (HF.out _) (fun h => by omega)
    ·have h := (vk.out.same HA.out).keep zj.out (fun e => by have := HF.out P e; omega) (fun b _ e => by have := HF.out b e; omega)
     rw [List.drop_drop, show 21 * j + 21 = 21 * (j + 1) from by omega] at h
     exact h
    ·exact (dt.out.next HA.out (fun _ _ e => e.elim)).next zj.out (fun i hi e => by have := HF.out i e; omega)
   case measure => simp [intOf]; omega
  ·obtain rfl : N = j := by omega
   have G4 : ¬ (N : Int) < x := fun h => bH ((rH.out N).1 h)
   clear bH hj hx
   go_wp2_with fail
   go_ret
   exact ⟨_, _, _, rfl, rfl, HO.out, HF.out, HR.out, HK.out⟩
theorem jdR {w : World} {B0 P : Nat} {rs : List Int} (hB : IsB rs) (hl : rs.length ≤ 1099511627776) (Bi : B0 ≤ w.heap.size) (h : RI w B0 P rs) :
  Calls Tryz.prog 86 #[.pointer (some ⟨P, 0, none⟩)] w fun e w' => ∃ a n c, e = .returned (.slice a n c) ∧ n = (nI rs 1).toNat ∧ OwnL w' (FR.rows 2 ⟨98, a, n, c, dyL nI (rs.drop 1) n⟩) ∧ (∀ b, (Value.slice a n c).ownBlock = some b → w.heap.size ≤ b) ∧ RI w' B0 P ((rs.drop 1).drop (10 * n)) ∧ Kept (fun b => b = P) w w' := by
 have vV := h.lt
 have G7 := h.le
 have k1 := RX 1 (by omega) hB hl h
 obtain ⟨i0, hi, eT, fM, tT⟩ := info_parts Yq
 have hx := jal hB
 obtain ⟨x, tF⟩ : ∃ x, nI rs 1 = x := ⟨_, rfl⟩
 rw [tF] at hx k1 ⊢
 obtain ⟨N, hN⟩ : ∃ N, x.toNat = N := ⟨_, rfl⟩
 have Nr := hid hN
 have Lj : N ≤ 255 := by omega
 have oL : ∀ j : Nat, (j : Int) < x ↔ j < N := fun j => by omega
 have rH := hid oL
 obtain ⟨r1, hr⟩ : ∃ r1, rs.drop 1 = r1 := ⟨_, rfl⟩
 have bf := (show Hid (IsB r1) from hr ▸ hB.dropI 1)
 have uB : r1.length ≤ 1099511627776 := by rw [← hr, List.length_drop]; omega
 rw [hr] at k1 ⊢
 rw [hN]
 clear tF hN hr hB hl oL h
 go_enter Tryz.func86, Tryz.ntmps86
 go_wp2_with fail
 refine k1.mono ?_
 rintro e w1 ⟨rfl, lk, aH⟩
 have fU := hid lk
 have aM := hid aH
 clear lk aH k1
 go_wp2_with fail
 go_loopw [3, 6] (fun sv iv wr => ∃ (j : Nat) (a : Option Addr) (c : Nat), j ≤ N ∧ sv = .slice a j c ∧ iv = .int .i64 j ∧ Hid (OwnL wr (FR.rows 2 ⟨98, a, j, c, dyL nI r1 j⟩)) ∧ Hid (∀ b, (Value.slice a j c).ownBlock = some b → w.heap.size ≤ b) ∧ Hid (RI wr B0 P (r1.drop (10 * j))) ∧ Hid (Kept (fun b => b = P) w wr)) (fun _ iv _ => N - (intOf iv).toNat)
 case atStart => exact ⟨0, none, 0, Nat.zero_le _, rfl, rfl, Uc _ _ _, fun b hb => by simp [Value.ownBlock] at hb, fU, aM⟩
 case round =>
  obtain ⟨j, a, c, hj, rfl, rfl, HO, HF, HR, HK⟩ := hrel
  have nR := hx
  by_cases bH : j < N
  ·have G4 : (j : Int) < x := (rH.out j).2 bH
   clear hx
   go_wp2_with fail
   refine (RX 2 (by omega) (bf.out.dropI _) (by simp only [List.length_drop]; omega) HR.out).mono ?_
   rintro e v0 ⟨rfl, b9, aN⟩
   obtain ⟨y0, iu⟩ : ∃ y, nI (r1.drop (10 * j)) 2 = y := ⟨_, rfl⟩
   rw [iu]
   have tG := (show Hid (RI v0 B0 P ((r1.drop (10 * j)).drop 2)) from by have h := b9; simp only [List.drop_drop] at h ⊢; exact h)
   have aJ := hid (HK.out.trans aN)
   have iQ := hid (HO.out.kept aN (fun b hb e => by have := HF.out b ((Rw _ _).1 hb); omega))
   clear b9 aN HR HK HO
   go_wp2_with fail
   refine (RX 8 (by omega) ((bf.out.dropI _).dropI _) (by simp only [List.length_drop]; omega) tG.out).mono ?_
   rintro e v1 ⟨rfl, b9, aN⟩
   obtain ⟨y1, gZ⟩ : ∃ y, nI ((r1.drop (10 * j)).drop 2) 8 = y := ⟨_, rfl⟩
   rw [gZ]
   have fU := (show Hid (RI v1 B0 P ((r1.drop (10 * j)).drop 10)) from by have h := b9; simp only [List.drop_drop] at h ⊢; exact h)
   have aM := hid (aJ.out.trans aN)
   have gP := hid (iQ.out.kept aN (fun b hb e => by have := HF.out b ((Rw _ _).1 hb); omega))
   clear b9 aN tG aJ iQ
   have HA := (show Hid (Same v1 (v1.alloc (.cells #[.int .i64 y0, .int .i64 y1] 98))) from kZ0.alloc _)
   have Cv := hid ((gP.out.same HA.out).1 _ (List.mem_singleton.2 rfl))
   have rW := (show Hid (Blk (v1.alloc (.cells #[.int .i64 y0, .int .i64 y1] 98)) v1.heap.size 98 [.int .i64 y0, .int .i64 y1]) from Blk.newL v1 [.int .i64 y0, .int .i64 y1] 98)
   have gE := aM.out.size
   go_wp2_with (at_builtin; go_loud (refine wpList_append_lies _ rfl (.tmp 8) (.tmp 14) 48 rfl 0 98 i0 _ 2 16 Tryz.underlying48 hi eT fM tT rfl (by omega) (.slice a j c) j (vals .i64 (dyL nI r1 j)) rfl (by exact Cv.out) ⟨v1.heap.size, 0, none⟩ 1 1 [.int .i64 y0, .int .i64 y1] rfl rfl (World.news_of_block (cs := #[.int .i64 y0, .int .i64 y1]) (t := 98) (fr := (0, 0)) (by exact rW.out)) (by simp [Value.oneCell']) (by omega) (by unfold maxLen; omega) (by omega) (Nat.zero_le _) (v1.heap.size + 1) (by simp) ?_); intro g5 ov w9 fp et je uF; have zj := (show Hid (Kept (fun k => (Value.slice a j c).ownBlock = some k) (v1.alloc (.cells #[.int .i64 y0, .int .i64 y1] 98)) w9) from Kept.of_grown et (fun k e => e)); have j9 := hid (jcZ fp); have fA := hid je; clear fp et je)
   go_roundw
   case rel =>
    refine ⟨j + 1, _, _, by omega, rfl, by go_num, ?_, ?_, ?_, ?_⟩
    ·have e9 : dyL nI r1 (j + 1) = dyL nI r1 j ++ [y0, y1] := by
      rw [jc1]
      congr 1
      simp only [List.drop_drop] at iu gZ
      unfold dyE
      rw [iu, gZ]
     rw [e9]
     exact j9
    ·intro b hb
     have e : g5 = b := by simpa [Value.ownBlock] using hb
     subst e
     exact fA.out.elim (HF.out _) (fun h => by omega)
    ·have h := (fU.out.same HA.out).keep zj.out (fun e => by have := HF.out P e; omega) (fun b _ e => by have := HF.out b e; omega)
     rw [List.drop_drop, show 10 * j + 10 = 10 * (j + 1) from by omega] at h
     exact h
    ·exact (aM.out.next HA.out (fun _ _ e => e.elim)).next zj.out (fun i hi e => by have := HF.out i e; omega)
   case measure => simp [intOf]; omega
  ·obtain rfl : N = j := by omega
   have G4 : ¬ (N : Int) < x := fun h => bH ((rH.out N).1 h)
   clear bH hj hx
   go_wp2_with fail
   go_ret
   exact ⟨_, _, _, rfl, rfl, HO.out, HF.out, HR.out, HK.out⟩
def cZ (c : Int) : List Value := [.int .i64 c, .int .i64 0, .int .i64 0, .int .i64 0, .int .i64 0, .int .i64 0, .int .i64 0, .int .i64 0, .bool false, .slice none 0 0, .bool false, .slice none 0 0, .int .i64 0, .int .i64 0, .slice none 0 0, .slice none 0 0, .slice none 0 0]
theorem Vf {P : Program} {id : Nat} {o1 o2 : Oper} {Q : Exit → Act → World → Prop} {a : Act} {w : World} (d : Nat) (ty : TypeId) (parts : Array (Nat × Operand)) (x : Operand) (Z : Nat) (cells : Array Value)
  (h1 : o1.op = .build ty parts) (g1 : o1.guard = none) (d1 : o1.dst = some d) (h2 : o2.op = .store ty x (.tmp d)) (g2 : o2.guard = none) (d2 : o2.dst = none)
  (hb : ∀ wx, (execOp a.eval o1).run P wx = .ok (.value (.agg cells)) wx) (hx : (a.put (some d) (.agg cells)).eval x = .pointer (some ⟨Z, 0, none⟩)) (hy : (a.put (some d) (.agg cells)).eval (.tmp d) = .agg cells)
  (ht : w.there Z 0 cells.size) (hi : (P.info? ty).map (·.size) = some cells.size) (hc : cells.all (·.oneCell') = true)
  (h : Q .normal (a.put (some d) (.agg cells)) (w.setCells Z 0 cells.toList)) : (Code.region id #[o1, o2] false).wp P Q a w := by
 refine wp_region_lit (l := [o1, o2]) ?_
 refine wpList_plain g1 (fun K hK => ?_)
 unfold Oper.wp
 rw [hb]
 refine hK _ _ ?_
 rw [d1]
 refine wpList_store_mid g2 ty x (.tmp d) h2 Z 0 cells hx hy ht hi hc ?_
 rw [d2]
 exact h
theorem infoFr : (Tryz.prog.info? 52).map (·.size) = some 17 := by kernel_rfl
theorem VU {fn : Func} {p : Tmp} {ty : TypeId} {tmps : Array Value} {P : Program} {w : World} {Z : Nat} {cs : List Value} {d : TypeDesc} (h : fn.results = #[.cell p ty]) (hp : tmps.getD p undef = .pointer (some ⟨Z, 0, none⟩)) (hc : w.rangeAt Z 0 cs)
  (hu : P.underlying ty = some d) (hd : d.isRow = true) (hi : (P.info? ty).map (·.size) = some cs.length) : (results fn tmps).run P w = .ok (.agg cs.toArray) w := by
 rw [Array.getD_eq_getD_getElem?] at hp
 simp only [results, h]
 simp [Sem.run_bind, Result.andThen, hp, asAddr, run_loadVar_mid w Z 0 ty cs d hc hu hd hi]
theorem TG {w : World} {Z : Nat} {e : TypeId} {xs : List Value} (h : Blk w Z e xs) (vs : List Value) (hl : vs.length = xs.length) : Blk (w.setCells Z 0 vs) Z e vs := by
 have h1 := h.setCells vs 0 (by omega)
 rwa [lay_all _ _ (by omega)] at h1
theorem Blk.all17 {w : World} {B : Nat} {e : TypeId} {v0 v1 v2 v3 v4 v5 v6 v7 v8 v9 v10 v11 kh kL ot tI s8 : Value} (h : Blk w B e [v0, v1, v2, v3, v4, v5, v6, v7, v8, v9, v10, v11, kh, kL, ot, tI, s8]) : w.cell? ⟨B, 0, none⟩ = some v0 ∧ w.cell? ⟨B, 1, none⟩ = some v1 ∧ w.cell? ⟨B, 2, none⟩ = some v2 ∧ w.cell? ⟨B, 3, none⟩ = some v3 ∧ w.cell? ⟨B, 4, none⟩ = some v4 ∧ w.cell? ⟨B, 5, none⟩ = some v5 ∧ w.cell? ⟨B, 6, none⟩ = some v6 ∧ w.cell? ⟨B, 7, none⟩ = some v7 ∧ w.cell? ⟨B, 8, none⟩ = some v8 ∧ w.cell? ⟨B, 9, none⟩ = some v9 ∧ w.cell? ⟨B, 10, none⟩ = some v10 ∧ w.cell? ⟨B, 11, none⟩ = some v11 ∧ w.cell? ⟨B, 12, none⟩ = some kh ∧ w.cell? ⟨B, 13, none⟩ = some kL ∧ w.cell? ⟨B, 14, none⟩ = some ot ∧ w.cell? ⟨B, 15, none⟩ = some tI ∧ w.cell? ⟨B, 16, none⟩ = some s8 := ⟨h.cell 0, h.cell 1, h.cell 2, h.cell 3, h.cell 4, h.cell 5, h.cell 6, h.cell 7, h.cell 8, h.cell 9, h.cell 10, h.cell 11, h.cell 12, h.cell 13, h.cell 14, h.cell 15, h.cell 16⟩
theorem jdS {w a : World} {Z : Nat} (h : Same w a) (hz : w.heap.size ≤ Z) (v0 v1 v2 v3 v4 v5 v6 v7 v8 v9 v10 v11 kh kL ot tI s8 : Value) : Same w (((((((((((((((((a.setCell ⟨Z, 0, none⟩ v0).setCell ⟨Z, 1, none⟩ v1).setCell ⟨Z, 2, none⟩ v2).setCell ⟨Z, 3, none⟩ v3).setCell ⟨Z, 4, none⟩ v4).setCell ⟨Z, 5, none⟩ v5).setCell ⟨Z, 6, none⟩ v6).setCell ⟨Z, 7, none⟩ v7).setCell ⟨Z, 8, none⟩ v8).setCell ⟨Z, 9, none⟩ v9).setCell ⟨Z, 10, none⟩ v10).setCell ⟨Z, 11, none⟩ v11).setCell ⟨Z, 12, none⟩ kh).setCell ⟨Z, 13, none⟩ kL).setCell ⟨Z, 14, none⟩ ot).setCell ⟨Z, 15, none⟩ tI).setCell ⟨Z, 16, none⟩ s8) := (((((((((((((((((h.setCell (p := ⟨Z, 0, none⟩) (.inl hz) v0).setCell (p := ⟨Z, 1, none⟩) (.inl hz) v1).setCell (p := ⟨Z, 2, none⟩) (.inl hz) v2).setCell (p := ⟨Z, 3, none⟩) (.inl hz) v3).setCell (p := ⟨Z, 4, none⟩) (.inl hz) v4).setCell (p := ⟨Z, 5, none⟩) (.inl hz) v5).setCell (p := ⟨Z, 6, none⟩) (.inl hz) v6).setCell (p := ⟨Z, 7, none⟩) (.inl hz) v7).setCell (p := ⟨Z, 8, none⟩) (.inl hz) v8).setCell (p := ⟨Z, 9, none⟩) (.inl hz) v9).setCell (p := ⟨Z, 10, none⟩) (.inl hz) v10).setCell (p := ⟨Z, 11, none⟩) (.inl hz) v11).setCell (p := ⟨Z, 12, none⟩) (.inl hz) kh).setCell (p := ⟨Z, 13, none⟩) (.inl hz) kL).setCell (p := ⟨Z, 14, none⟩) (.inl hz) ot).setCell (p := ⟨Z, 15, none⟩) (.inl hz) tI).setCell (p := ⟨Z, 16, none⟩) (.inl hz) s8)
theorem jdT (a : World) (Z : Nat) (v0 v1 v2 v3 v4 v5 v6 v7 v8 v9 v10 v11 kh kL ot tI s8 : Value) : Kept (fun b => b = Z) a (((((((((((((((((a.setCell ⟨Z, 0, none⟩ v0).setCell ⟨Z, 1, none⟩ v1).setCell ⟨Z, 2, none⟩ v2).setCell ⟨Z, 3, none⟩ v3).setCell ⟨Z, 4, none⟩ v4).setCell ⟨Z, 5, none⟩ v5).setCell ⟨Z, 6, none⟩ v6).setCell ⟨Z, 7, none⟩ v7).setCell ⟨Z, 8, none⟩ v8).setCell ⟨Z, 9, none⟩ v9).setCell ⟨Z, 10, none⟩ v10).setCell ⟨Z, 11, none⟩ v11).setCell ⟨Z, 12, none⟩ kh).setCell ⟨Z, 13, none⟩ kL).setCell ⟨Z, 14, none⟩ ot).setCell ⟨Z, 15, none⟩ tI).setCell ⟨Z, 16, none⟩ s8) := ((((((((((((((((((Kept.refl (fun b => b = Z) a).setCell (p := ⟨Z, 0, none⟩) (.inr rfl) v0).setCell (p := ⟨Z, 1, none⟩) (.inr rfl) v1).setCell (p := ⟨Z, 2, none⟩) (.inr rfl) v2).setCell (p := ⟨Z, 3, none⟩) (.inr rfl) v3).setCell (p := ⟨Z, 4, none⟩) (.inr rfl) v4).setCell (p := ⟨Z, 5, none⟩) (.inr rfl) v5).setCell (p := ⟨Z, 6, none⟩) (.inr rfl) v6).setCell (p := ⟨Z, 7, none⟩) (.inr rfl) v7).setCell (p := ⟨Z, 8, none⟩) (.inr rfl) v8).setCell (p := ⟨Z, 9, none⟩) (.inr rfl) v9).setCell (p := ⟨Z, 10, none⟩) (.inr rfl) v10).setCell (p := ⟨Z, 11, none⟩) (.inr rfl) v11).setCell (p := ⟨Z, 12, none⟩) (.inr rfl) kh).setCell (p := ⟨Z, 13, none⟩) (.inr rfl) kL).setCell (p := ⟨Z, 14, none⟩) (.inr rfl) ot).setCell (p := ⟨Z, 15, none⟩) (.inr rfl) tI).setCell (p := ⟨Z, 16, none⟩) (.inr rfl) s8)
theorem Blk.all15 {w : World} {B : Nat} {e : TypeId} {v0 v1 v2 v3 v4 v5 v6 v7 v8 v9 v10 v11 kh kL ot : Value} (h : Blk w B e [v0, v1, v2, v3, v4, v5, v6, v7, v8, v9, v10, v11, kh, kL, ot]) : w.cell? ⟨B, 0, none⟩ = some v0 ∧ w.cell? ⟨B, 1, none⟩ = some v1 ∧ w.cell? ⟨B, 2, none⟩ = some v2 ∧ w.cell? ⟨B, 3, none⟩ = some v3 ∧ w.cell? ⟨B, 4, none⟩ = some v4 ∧ w.cell? ⟨B, 5, none⟩ = some v5 ∧ w.cell? ⟨B, 6, none⟩ = some v6 ∧ w.cell? ⟨B, 7, none⟩ = some v7 ∧ w.cell? ⟨B, 8, none⟩ = some v8 ∧ w.cell? ⟨B, 9, none⟩ = some v9 ∧ w.cell? ⟨B, 10, none⟩ = some v10 ∧ w.cell? ⟨B, 11, none⟩ = some v11 ∧ w.cell? ⟨B, 12, none⟩ = some kh ∧ w.cell? ⟨B, 13, none⟩ = some kL ∧ w.cell? ⟨B, 14, none⟩ = some ot := ⟨h.cell 0, h.cell 1, h.cell 2, h.cell 3, h.cell 4, h.cell 5, h.cell 6, h.cell 7, h.cell 8, h.cell 9, h.cell 10, h.cell 11, h.cell 12, h.cell 13, h.cell 14⟩
def nzB : BS := ⟨5, none, 0, []⟩
def nzF (e : TypeId) : FR := ⟨e, none, 0, 0, []⟩
def recZ : StLogRecord := ⟨0, 0, 0, 0, 0, ⟨false, nzB⟩, ⟨false, nzB⟩, 0, 0, nzF 96, nzF 98, nzB⟩
theorem Sr {b : Nat} (h : Rf recZ.rows b) : False := by
 have fB : ∀ b, ¬ Rf nzB.rows b := fun b h => by have h := (RF _ _ _ _ _).1 h; simp [nzB, BS.v, Value.ownBlock] at h
 have fF : ∀ (m : Nat) (e : TypeId) (b : Nat), ¬ Rf ((nzF e).rows m) b := fun m e b h => by have h := (Rw _ _).1 h; simp [nzF, FR.v, Value.ownBlock] at h
 rcases (Q7 _ _ _).1 h with h | h
 ·exact fB _ h
 rcases (Q7 _ _ _).1 h with h | h
 ·exact fB _ h
 rcases (Q7 _ _ _).1 h with h | h
 ·exact fF _ _ _ h
 rcases (Q7 _ _ _).1 h with h | h
 ·exact fF _ _ _ h
 ·exact fB _ h
theorem SS (w : World) : OwnL w recZ.rows :=
 have hB : OwnL w nzB.rows := OwnL.one (Own.nil 0 _ .u8 _)
 have fB : ∀ b, ¬ Rf nzB.rows b := fun b h => by have h := (RF _ _ _ _ _).1 h; simp [nzB, BS.v, Value.ownBlock] at h
 have fF : ∀ (m : Nat) (e : TypeId) (b : Nat), ¬ Rf ((nzF e).rows m) b := fun m e b h => by have h := (Rw _ _).1 h; simp [nzF, FR.v, Value.ownBlock] at h
 hB.append (hB.append ((Uc 4 _ w).append ((Uc 2 _ w).append hB (fun b h => (fF _ _ _ h).elim)) (fun b h => (fF _ _ _ h).elim)) (fun b h => (fB _ h).elim)) (fun b h => (fB _ h).elim)
theorem IsB.tk {xs : List Int} (n : Nat) (h : IsB xs) : IsB (xs.take n) := fun x hx => h x (List.mem_of_mem_take hx)
theorem take_len {xs : List Int} {a m : Nat} (h : a + m ≤ xs.length) : ((xs.drop a).take m).length = m := by simp; omega
def takeB (bs : List Int) (o n : Nat) : List Int := (List.range n).map (fun i => bs.getD (o + i) 0)
theorem TH (bs : List Int) (o n : Nat) : (takeB bs o n).length = n := by simp [takeB]
theorem Xp (bs : List Int) (i : Nat) (h : bs.length ≤ i) : bs.getD i 0 = 0 := by simp [List.getD, List.getElem?_eq_none h]
theorem jdU {bs : List Int} (h : IsB bs) (i : Nat) : 0 ≤ bs.getD i 0 ∧ bs.getD i 0 ≤ 255 := by
 by_cases hi : i < bs.length
 ·exact h.at i hi
 ·rw [Xp _ _ (by omega)]; omega
theorem jc2 {bs : List Int} (h : IsB bs) (o n : Nat) : IsB (takeB bs o n) := fun y hy => by
 obtain ⟨i, _, rfl⟩ := List.mem_map.1 hy
 exact jdU h _
def Wo (bs : List Int) (o n k : Nat) : List Int := takeB bs o k ++ List.replicate (n - k) 0
theorem ja9 (bs : List Int) (o n k : Nat) (h : k ≤ n) : (Wo bs o n k).length = n := by simp [Wo, TH]; omega
theorem ZK (bs : List Int) (o n k : Nat) (h : k < n) : (Wo bs o n k).set k (bs.getD (o + k) 0) = Wo bs o n (k + 1) := by
 unfold Wo
 rw [List.set_append_right _ _ (by simp [TH]), TH, Nat.sub_self, show n - k = (n - (k + 1)) + 1 from by omega, List.replicate_succ, List.set_cons_zero]
 simp [takeB, List.range_succ]
theorem jc3 (bs : List Int) (o n k : Nat) (h : k < n) (hb : bs.length ≤ o + k) : Wo bs o n k = Wo bs o n (k + 1) := by
 rw [← ZK _ _ _ _ h]
 unfold Wo
 rw [List.set_append_right _ _ (by simp [TH]), TH, Nat.sub_self, show n - k = (n - (k + 1)) + 1 from by omega, List.replicate_succ, List.set_cons_zero, Xp _ _ hb]
theorem jc4 (bs : List Int) (o n : Nat) : Wo bs o n 0 = List.replicate n 0 := by simp [Wo, takeB]
theorem jdV (bs : List Int) (o n : Nat) : Wo bs o n n = takeB bs o n := by simp [Wo]
theorem Yr (P : Nat) (v : Value) (bs : List Int) (o n : Nat) (w : World) (hn : n ≤ 1048576) (ho : o ≤ 1099511627776) (hl : bs.length ≤ 1099511627776) (hp : Blk w P 92 [v, .int .i64 o]) (hv : Rd .u8 w v bs) :
  Calls Tryz.prog 63 #[.pointer (some ⟨P, 0, none⟩), .int .i64 n] w fun e w' => ∃ g, e = .returned (.slice (some ⟨g, 0, none⟩) n n) ∧ w.heap.size ≤ g ∧ Own 0 5 .u8 w' (.slice (some ⟨g, 0, none⟩) n n) (takeB bs o n) ∧ Blk w' P 92 [v, .int .i64 ((o + n : Nat) : Int)] ∧ Kept (fun b => b = P) w w' := by
 obtain ⟨i0, hi, eL, eT, fM⟩ := info_parts Tryz.infoByte'
 obtain ⟨a, c, rfl⟩ := hv.form
 have HV := (show Hid (Rd .u8 w (.slice a bs.length c) bs) from hv)
 have HP := (show Hid (Blk w P 92 [.slice a bs.length c, .int .i64 o]) from hp)
 have I6 := hp.lt
 clear hv hp
 go_enter Tryz.func63, Tryz.ntmps63
 go_wp2_with (at_make; refine wpList_make_full _ rfl (.tmp 7) (.tmp 7) 22 rfl 0 5 i0 (.int .u8 0) 1 Tryz.underlying22 hi eL eT .i64 .i64 _ _ n rfl rfl (by simp) (by simp) (by rw [fM]; omega) (by unfold maxLen; omega) (Nat.zero_le _) ?_; intro w1 cy bS; have HO : Hid (Own 0 5 .u8 w1 (.slice (some ⟨w.heap.size, 0, none⟩) n n) (List.replicate n 0)) := Vw (by simpa using cy); have HK : Hid (Same w w1) := Kept.of_grown bS (fun k e => by cases e); clear cy bS)
 go_loopw [6] (fun i wr => ∃ (k : Nat), k ≤ n ∧ i = .int .i64 k ∧ Hid (Own 0 5 .u8 wr (.slice (some ⟨w.heap.size, 0, none⟩) n n) (Wo bs o n k)) ∧ Hid (Same w wr)) (fun i _ => n - (intOf i).toNat)
 case atStart => exact ⟨0, Nat.zero_le _, rfl, by rw [jc4]; exact HO, HK⟩
 case round =>
  obtain ⟨k, hk, rfl, HOr, dO⟩ := hrel
  by_cases bH : k < n
  ·let Y2 : World → Prop := fun wx : World => wx.cell? ⟨P, 0, none⟩ = some (.slice a bs.length c) ∧ wx.cell? ⟨P, 1, none⟩ = some (.int .i64 o)
   have hS : Y2 wr.drew := ⟨(HP.out.same dO.out.drew).cell 0, (HP.out.same dO.out.drew).cell 1⟩
   go_wp2_with fail
   refine Q9 Y2 99 12 rfl (by kernel_rfl) ?_
   refine tk 0 14 hS ?_
   refine tk 1 15 hS ?_
   refine tk 2 16 hS ?_
   refine tk 3 17 hS ?_
   refine tk 4 18 hS ?_
   refine tk 5 19 hS ?_
   refine tk 6 20 hS ?_
   refine tk 7 21 hS ?_
   refine tk 8 22 hS ?_
   refine tk 9 23 hS ?_
   refine tk 10 24 hS ?_
   refine tk 11 25 hS ?_
   refine Q8 (by kernel_rfl) ?_
   rw [show IntKind.i64.wrap ((o : Int) + (k : Int)) = ((o + k : Nat) : Int) from by rw [IntKind.wrap_i64]; omega]
   clear hS
   by_cases m8 : o + k < bs.length
   ·rw [show decide (((o + k : Nat) : Int) < (bs.length : Int)) = true from by simp; omega]
    obtain ⟨b, off, rfl, _⟩ := rd_some HV.out (by omega)
    have jH : w.cell? ⟨b, off + (o + k), none⟩ = some (.int .u8 (bs.getD (o + k) 0)) := by
     rcases HV.out.2 with ⟨rfl, _⟩ | ⟨b', o', c', he, _, hc⟩
     ·simp at m8
     ·injection he with he1
      injection he1 with he1
      injection he1 with e1 e2
      subst e1 e2
      exact hc _ m8
    let Y1 : World → Prop := fun wx : World => wx.cell? ⟨P, 0, none⟩ = some (.slice (some ⟨b, off, none⟩) bs.length c) ∧ wx.cell? ⟨P, 1, none⟩ = some (.int .i64 o) ∧ wx.cell? ⟨b, off + (o + k), none⟩ = some (.int .u8 (bs.getD (o + k) 0))
    have hS : Y1 wr.drew.drew := ⟨(HP.out.same dO.out.drew.drew).cell 0, (HP.out.same dO.out.drew.drew).cell 1, dO.out.drew.drew.cellOf jH id⟩
    have HL : Hid (n = (Wo bs o n k).length) := (ja9 _ _ _ _ hk).symm
    have eF := hid (HOr.out.same kZ0.drew.drew)
    have q2 := eF.out.frozen HL.out k
    have q3 := eF.out.cell HL.out k bH
    have Al : IntKind.i64.wrap ((o : Int) + (k : Int)) = (o : Int) + (k : Int) := by rw [IntKind.wrap_i64]; omega
    have fX : 0 ≤ (o : Int) + (k : Int) := by omega
    have EC : (o : Int) + (k : Int) < (bs.length : Int) := by omega
    have PE : ((o : Int) + (k : Int)).toNat = o + k := by omega
    go_wp2_with fail
    refine Q9 Y1 15 16 rfl (by kernel_rfl) ?_
    refine tk 0 26 hS ?_
    refine tk 1 27 hS ?_
    refine tk 2 28 hS ?_
    refine tk 3 29 hS ?_
    refine tk 4 30 hS ?_
    refine tk 5 31 hS ?_
    refine tk 6 32 hS ?_
    refine tk 7 33 hS ?_
    refine tk 8 34 hS ?_
    refine tk 9 35 hS ?_
    refine tk 10 36 hS ?_
    refine tk 11 37 hS ?_
    refine tkV 12 38 (.pointer (some ⟨b, off + (o + k), none⟩)) hS ?_
    refine tk 13 39 hS ?_
    refine tk 14 40 hS ?_
    refine o1Q 15 (fun K hK => ?_)
    go_simp
    refine hK.out _ _ (fun h => absurd rfl h) ?_
    clear hK K
    refine Q8 (by kernel_rfl) ?_
    try simp only [Act.put, sA, s0, sS]
    have h := HOr.out.stored HL.out k (bs.getD (o + k) 0)
    rw [ZK _ _ _ _ bH] at h
    have fy := (show Hid (Own 0 5 .u8 (wr.setCell ⟨w.heap.size, k, none⟩ (.int .u8 (bs.getD (o + k) 0))).drew.drew (.slice (some ⟨w.heap.size, 0, none⟩) n n) (Wo bs o n (k + 1))) from h.same kZ0.drew.drew)
    have dt := (show Hid (Same w (wr.setCell ⟨w.heap.size, k, none⟩ (.int .u8 (bs.getD (o + k) 0))).drew.drew) from (dO.out.setCell (.inl (Nat.le_refl _)) _).drew.drew)
    clear h hS q2 q3 jH eF HL
    go_wp2
    go_roundw
    case rel => exact ⟨k + 1, by omega, by go_num, by simpa [m8, List.getD, Hid] using fy, by simpa [m8, List.getD, Hid] using dt⟩
    case measure => simp [intOf]; omega
   ·rw [show decide (((o + k : Nat) : Int) < (bs.length : Int)) = false from by simp; omega]
    go_wp2
    go_roundw
    case rel => exact ⟨k + 1, by omega, by go_num, by rw [← jc3 _ _ _ _ bH (by omega)]; exact HOr.out.same kZ0.drew, dO.out.drew⟩
    case measure => simp [intOf]; omega
  ·obtain rfl : k = n := by omega
   have hb := HP.out.same dO.out
   have d0 := hb.cell 0
   have d1 := hb.cell 1
   have f1 := hb.frozen 1
   simp only [List.getElem?_cons_zero, List.getElem?_cons_succ] at d0 d1
   go_wp2
   go_ret
   have hO := HOr.out
   rw [jdV] at hO
   have hz := dO.out.size
   have dL := hb.stored 1 (.int .i64 ((o : Int) + (k : Int)))
   refine ⟨w.heap.size, rfl, Nat.le_refl _, hO.kept (Kept.setCell (R := fun b => b = P) kZ0 (.inr rfl) _) (fun b iq e => ?_), ?_, ?_⟩
   ·have : w.heap.size = b := by simpa [Value.ownBlock] using iq
    omega
   ·rw [Int.natCast_add]
    exact dL
   ·exact Kept.setCell (R := fun b => b = P) (dO.out.mono (fun _ _ e => absurd e id)) (.inr rfl) _
theorem jan (P : Nat) (v : Value) (bs : List Int) (o n : Nat) (w : World) (hB : IsB bs) (hn : n ≤ 1048576) (ho : o ≤ 1099511627776) (hl : bs.length ≤ 1099511627776) (hp : Blk w P 92 [v, .int .i64 o]) (hv : Rd .u8 w v bs) :
  Calls Tryz.prog 61 #[.pointer (some ⟨P, 0, none⟩), .int .i64 n] w fun e w' => e = .returned (.int .i64 (RQ (takeB bs o n))) ∧ Blk w' P 92 [v, .int .i64 ((o + n : Nat) : Int)] ∧ Kept (fun b => b = P) w w' := by
 have h1 := Yr P v bs o n w hn ho hl hp hv
 have Ml := jc2 hB o n
 have yA := TH bs o n
 go_enter Tryz.func61, Tryz.ntmps61
 go_wp2_with fail
 refine h1.mono ?_
 rintro e w1 ⟨g, rfl, hg, gk, cN, aH⟩
 have bf := (show Hid (Blk w1 P 92 [v, .int .i64 ((o + n : Nat) : Int)]) from cN)
 have aM := (show Hid (Kept (fun b => b = P) w w1) from aH)
 have gP := (show Hid (Own 0 5 .u8 w1 (.slice (some ⟨g, 0, none⟩) n n) (takeB bs o n)) from gk)
 clear gk cN aH h1
 go_wp2_with fail
 refine (TU _ (takeB bs o n) w1 Ml (by rw [yA]; omega) gP.out.rd).mono ?_
 rintro e w2 ⟨rfl, aN⟩
 go_wp2
 go_ret
 exact ⟨rfl, bf.out.same aN, aM.out.trans (aN.mono (fun _ _ e => absurd e id))⟩
theorem ZL (bs : List Int) (o n : Nat) : takeB bs o n = SX (bs.drop o) n := by
 unfold takeB SX
 apply List.ext_getElem
 ·simp; omega
 ·intro j h1 h2
  simp only [List.length_map, List.length_range] at h1
  rw [List.getElem_map, List.getElem_range]
  by_cases h : j < (bs.drop o).length
  ·rw [List.getElem_append_left (by rw [List.length_take]; omega), List.getElem_take, List.getElem_drop]
   simp only [List.length_drop] at h
   simp [List.getD, List.getElem?_eq_getElem (show o + j < bs.length by omega)]
  ·rw [List.getElem_append_right (by rw [List.length_take]; omega), List.getElem_replicate]
   simp only [List.length_drop] at h
   exact Xp bs (o + j) (by omega)
theorem Rd.old {k : IntKind} {w wy : World} {v : Value} {bs : List Int} (h : Rd k w v bs) (hk : Kept (fun b => w.heap.size ≤ b) w wy) : Rd k wy v bs := by
 refine ⟨h.1, ?_⟩
 rcases h.2 with h2 | ⟨b, off, c, e, h3, hx⟩
 ·exact .inl h2
 ·refine .inr ⟨b, off, c, e, h3, fun i hi => hk.cellOf (hx i hi) ?_⟩
  have h5 := World.block_lt_of_cell? w _ (hx i hi)
  simp only at h5 ⊢
  omega
structure RS (wx : World) (B0 P : Nat) (v : Value) (bs rs : List Int) (ez : Nat) : Prop where
 at_ : ∃ o : Nat, o ≤ ez ∧ rs = bs.drop o ∧ Blk wx P 92 [v, .int .i64 (o : Int)]
 rd : ∀ wy, Kept (fun b => B0 ≤ b) wx wy → Rd .u8 wy v bs
 le : B0 ≤ P
theorem RS.keep {F : Nat → Prop} {wx wy : World} {B0 P : Nat} {v : Value} {bs rs : List Int} {ez : Nat} (h : RS wx B0 P v bs rs ez) (hk : Kept F wx wy) (hP : ¬ F P) (hF : ∀ b, b < wx.heap.size → F b → B0 ≤ b) : RS wy B0 P v bs rs ez := by
 obtain ⟨⟨o, h1, h2, h3⟩, h4, h5⟩ := h
 exact ⟨⟨o, h1, h2, h3.kept hk hP⟩, fun wz hz => h4 wz ((hk.mono hF).trans hz), h5⟩
theorem RS.same {wx wy : World} {B0 P : Nat} {v : Value} {bs rs : List Int} {ez : Nat} (h : RS wx B0 P v bs rs ez) (hk : Same wx wy) : RS wy B0 P v bs rs ez := h.keep hk id (fun _ _ e => e.elim)
theorem RS.lt {wx : World} {B0 P : Nat} {v : Value} {bs rs : List Int} {ez : Nat} (h : RS wx B0 P v bs rs ez) : P < wx.heap.size := by
 obtain ⟨⟨o, h1, h2, h3⟩, h4, h5⟩ := h
 exact h3.lt
theorem RS.isB {wx : World} {B0 P : Nat} {v : Value} {bs rs : List Int} {ez : Nat} (h : RS wx B0 P v bs rs ez) (hB : IsB bs) : IsB rs := by
 obtain ⟨⟨o, h1, h2, h3⟩, h4, h5⟩ := h
 rw [h2]
 exact fun y hy => hB y (List.mem_of_mem_drop hy)
theorem RS.on {wx wy : World} {B0 P : Nat} {v : Value} {bs : List Int} {ez o n : Nat} (h4 : ∀ wy, Kept (fun b => B0 ≤ b) wx wy → Rd .u8 wy v bs) (h5 : B0 ≤ P) (hb : Blk wy P 92 [v, .int .i64 ((o + n : Nat) : Int)]) (ho : o ≤ ez) (hk : Kept (fun b => b = P) wx wy) : RS wy B0 P v bs ((bs.drop o).drop n) (ez + n) :=
 ⟨⟨o + n, by omega, by rw [List.drop_drop], hb⟩, fun wz hz => h4 wz ((hk.mono (fun b _ e => by omega)).trans hz), h5⟩
theorem R4 {w : World} {B0 P : Nat} {v : Value} {bs rs : List Int} {ez : Nat} (n : Nat) (hB : IsB bs) (hn : n ≤ 8) (hm : ez ≤ 1000000) (hl : bs.length ≤ 1099511627776) (h : RS w B0 P v bs rs ez) :
  Calls Tryz.prog 61 #[.pointer (some ⟨P, 0, none⟩), .int .i64 n] w fun e w' => e = .returned (.int .i64 (nS rs n)) ∧ RS w' B0 P v bs (rs.drop n) (ez + n) ∧ Kept (fun b => b = P) w w' := by
 obtain ⟨⟨o, h1, rfl, h3⟩, h4, h5⟩ := h
 refine (jan P v bs o n w hB (by omega) (by omega) hl h3 (h4 w kZ0)).mono ?_
 rintro e w' ⟨rfl, hb, hk⟩
 exact ⟨by rw [ZL]; rfl, RS.on h4 h5 hb h1 hk, hk⟩
theorem ZM {w : World} {B0 P : Nat} {v : Value} {bs rs : List Int} {ez : Nat} (n : Nat) (hn : n ≤ 65536) (hm : ez ≤ 1000000) (hl : bs.length ≤ 1099511627776) (h : RS w B0 P v bs rs ez) :
  Calls Tryz.prog 63 #[.pointer (some ⟨P, 0, none⟩), .int .i64 n] w fun e w' => ∃ g, e = .returned (.slice (some ⟨g, 0, none⟩) n n) ∧ w.heap.size ≤ g ∧ Own 0 5 .u8 w' (.slice (some ⟨g, 0, none⟩) n n) (SX rs n) ∧ RS w' B0 P v bs (rs.drop n) (ez + n) ∧ Kept (fun b => b = P) w w' := by
 obtain ⟨⟨o, h1, rfl, h3⟩, h4, h5⟩ := h
 refine (Yr P v bs o n w (by omega) (by omega) hl h3 (h4 w kZ0)).mono ?_
 rintro e w' ⟨g, rfl, hg, ho, hb, hk⟩
 rw [ZL] at ho
 exact ⟨g, rfl, hg, ho, RS.on h4 h5 hb h1 hk, hk⟩
theorem jdW {rs : List Int} (hB : IsB rs) : 0 ≤ nS rs 2 ∧ nS rs 2 ≤ 65535 := by
 have hl : (SX rs 2).length = 2 := by simp [SX]; omega
 have hb : IsB (SX rs 2) := fun x hx => by
  unfold SX at hx
  rcases List.mem_append.1 hx with h | h
  ·exact hB x (List.mem_of_mem_take h)
  ·rw [List.eq_of_mem_replicate h]; omega
 unfold nS
 match hm : SX rs 2, hl with
 | [a, b], _ =>
  have ha := hb a (by rw [hm]; simp)
  have iq := hb b (by rw [hm]; simp)
  have hn : num [a, b] = a * 256 + b := by simp [num]
  unfold RQ
  rw [hn, if_neg (by simp only [List.length_cons, List.length_nil]; omega)]
  omega
theorem U5 {w : World} {B0 P : Nat} {v : Value} {bs rs : List Int} {ez : Nat} (hB : IsB bs) (hm : ez ≤ 900000) (hl : bs.length ≤ 1099511627776) (h : RS w B0 P v bs rs ez) :
  Calls Tryz.prog 62 #[.pointer (some ⟨P, 0, none⟩)] w fun e w' => ∃ y : StPageRecord, e = .returned y.val ∧ y.dat = (Sz nS SX rs).1 ∧ (∀ b, Rf y.rows b → w.heap.size ≤ b) ∧ OwnL w' y.rows ∧ RS w' B0 P v bs (Sz nS SX rs).2 (ez + 65538) ∧ Kept (fun b => b = P) w w' := by
 have vV := h.lt
 have G7 := h.le
 have hR := h.isB hB
 have du : Same w (w.alloc (.cells #[.bool false, .slice none 0 0] 46)) := kZ0.alloc _
 have bm := hid (Blk.newL w [.bool false, .slice none 0 0] 46)
 have aJ := hid du
 have H0 := hid (h.same du)
 clear h du
 go_enter Tryz.func62, Tryz.ntmps62
 go_wp2_with fail
 refine (R4 1 hB (by omega) (by omega) hl H0.out).mono ?_
 rintro e w1 ⟨rfl, lk, aH⟩
 have fW : ¬ w.heap.size = P := by omega
 have bf := hid (bm.out.kept aH fW)
 have fU := hid lk
 have aM := (show Hid (Kept (fun b => b = P) w w1) from (aJ.out.mono (fun _ _ e => e.elim)).trans aH)
 obtain ⟨x, hx⟩ : ∃ x, nS rs 1 = x := ⟨_, rfl⟩
 rw [hx]
 clear lk aH H0 aJ bm
 have QW : ∀ (u : World), w.heap.size ≤ u.heap.size → True := fun _ _ => trivial
 by_cases h1 : x = 1
 ·subst h1
  have HE := (show Hid (Sz nS SX rs = ((true, SX (rs.drop 3) (nS (rs.drop 1) 2).toNat), (rs.drop 3).drop (nS (rs.drop 1) 2).toNat)) from if_pos hx)
  obtain ⟨gH, iT⟩ := jdW (rs := rs.drop 1) (fun y hy => hR y (List.mem_of_mem_drop hy))
  obtain ⟨n, hn⟩ : ∃ n : Nat, nS (rs.drop 1) 2 = n := ⟨(nS (rs.drop 1) 2).toNat, by omega⟩
  rw [hn, Int.toNat_natCast] at HE
  have oS : n ≤ 65535 := by omega
  have k2 := R4 2 hB (by omega) (by omega) hl fU.out
  rw [hn, List.drop_drop] at k2
  clear hx gH iT hn
  go_wp2_with fail
  refine k2.mono ?_
  rintro e w2 ⟨rfl, b9, aN⟩
  have cm := hid (bf.out.kept aN fW)
  have jD := hid b9
  have aY := hid (aM.out.trans aN)
  clear b9 aN k2 bf fU aM
  go_wp2_with fail
  refine (ZM n (by omega) (by omega) hl jD.out).mono ?_
  rintro e w3 ⟨g, rfl, hg, ho, rY, fq⟩
  have dL := cm.out.lt
  have fo := hid (cm.out.kept fq fW)
  have gL : Kept (fun b => b = w.heap.size) w3 ((w3.setCell ⟨w.heap.size, 0, none⟩ (.bool true)).setCell ⟨w.heap.size, 1, none⟩ (.slice (some ⟨g, 0, none⟩) n n)) := ((Kept.refl (fun b => b = w.heap.size) w3).setCell (p := ⟨w.heap.size, 0, none⟩) (.inr rfl) _).setCell (p := ⟨w.heap.size, 1, none⟩) (.inr rfl) _
  have il := hid (ho.kept gL (fun b hb e => by have h7 : g = b := Option.some.inj hb; omega))
  have kb := (show Hid (RS ((w3.setCell ⟨w.heap.size, 0, none⟩ (.bool true)).setCell ⟨w.heap.size, 1, none⟩ (.slice (some ⟨g, 0, none⟩) n n)) B0 P v bs ((rs.drop 3).drop n) (ez + 1 + 2 + n)) from rY.keep gL (fun e => fW e.symm) (fun b _ e => by omega))
  have cu := hid ((aY.out.trans fq).next gL (fun i hi e => by omega))
  have HG := (show Hid (w.heap.size ≤ g) from by have := aY.out.size; unfold Hid; omega)
  have HL := (show Hid ((SX (rs.drop 3) n).length = n) from by unfold Hid; obtain ⟨_, _, h⟩ := il.out.rd.form; injection h with _ h _; exact h.symm)
  obtain ⟨c0, c1⟩ := fo.out.all2
  have fb := fo.out.frozen
  clear ho rY fq gL fo cm jD aY hg
  go_wp2_with fail
  refine bodyPost_ret (v := .agg #[.bool true, .slice (some ⟨g, 0, none⟩) n n]) (by simp [results, Tryz.results62, go_sem, c0, c1]) rfl ?_
  rw [HE.out]
  obtain ⟨⟨o, q1, q2, q3⟩, q4, q5⟩ := kb.out
  refine ⟨⟨true, ⟨5, some ⟨g, 0, none⟩, n, SX (rs.drop 3) n⟩⟩, by simp only [StPageRecord.val, BS.v, HL.out], rfl, fun b hb => ?_, OwnL.one (by have h := il.out; simp only [BS.v, HL.out]; exact h), ⟨⟨o, by omega, q2, q3⟩, q4, q5⟩, cu.out⟩
  have h := (RF _ _ _ _ _).1 hb
  have h7 : g = b := Option.some.inj h
  have := HG.out
  omega
 ·have GM : (x != 1) = true := bne_iff_ne.2 h1
  have HE := (show Hid (Sz nS SX rs = ((false, []), rs.drop 1)) from if_neg (by rw [hx]; exact h1))
  obtain ⟨c0, c1⟩ := bf.out.all2
  have fb := bf.out.frozen
  have gL : ∀ v0 v1, Kept (fun b => b = w.heap.size) w1 ((w1.setCell ⟨w.heap.size, 0, none⟩ v0).setCell ⟨w.heap.size, 1, none⟩ v1) := fun _ _ => ((Kept.refl (fun b => b = w.heap.size) w1).setCell (.inr rfl) _).setCell (.inr rfl) _
  have kJ := hid gL
  clear gL hx
  go_wp2_with fail
  refine bodyPost_ret (v := .agg #[.bool false, .slice none 0 0]) (by simp [results, Tryz.results62, go_sem, c0, c1]) rfl ?_
  rw [HE.out]
  obtain ⟨⟨o, q1, q2, q3⟩, q4, q5⟩ := fU.out
  refine ⟨⟨false, ⟨0, none, 0, []⟩⟩, rfl, rfl, fun b hb => by have h := (RF _ _ _ _ _).1 hb; simp [BS.v, Value.ownBlock] at h, OwnL.one (Own.nil 0 0 .u8 _), ?_, ?_⟩
  ·first
   | exact ⟨⟨o, by omega, q2, q3⟩, q4, q5⟩
   | (have h := fU.out.keep (kJ.out (.bool false) (.slice none 0 0)) (fun e => fW e.symm) (fun b _ e => by omega); obtain ⟨⟨o, q1, q2, q3⟩, q4, q5⟩ := h; exact ⟨⟨o, by omega, q2, q3⟩, q4, q5⟩)
  ·first | exact aM.out | exact aM.out.next (kJ.out _ _) (fun i hi e => by omega)
structure StRecordResult where
 good : Bool
 record : StLogRecord
def StRecordResult.val (x : StRecordResult) : Value := .agg #[.bool x.good, .int .i64 x.record.kind, .int .i64 x.record.txn, .int .i64 x.record.prev, .int .i64 x.record.page, .int .i64 x.record.slot, .bool x.record.before.used, x.record.before.data.v, .bool x.record.after.used, x.record.after.data.v, .int .i64 x.record.uN, .int .i64 x.record.nT, x.record.txns.v, x.record.dirty.v, x.record.image.v]
def StRecordResult.rows (x : StRecordResult) : List Row := x.record.rows
def StRecordResult.dat (x : StRecordResult) : Bool × (Int × Int × Int × Int × Int × (Bool × List Int) × (Bool × List Int) × Int × Int × List Int × List Int × List Int) := (x.good, x.record.dat)
def StRecordResult.size (x : StRecordResult) : Int := x.record.size
theorem StRecordResult.size_le (x : StRecordResult) : 0 ≤ x.size := by
 unfold StRecordResult.size
 have h0 := x.record.size_le
 omega
def StRecordResult.marked (x : StRecordResult) (k : Int) : StRecordResult := ⟨x.good, x.record.marked (k)⟩
theorem StRecordResult.foot_marked (x : StRecordResult) (k : Int) (b : Nat) : Rf (x.marked k).rows b ↔ Rf x.rows b := by
 exact StLogRecord.foot_marked _ _ b
def StRecordResult.rd (w : World) (x : StRecordResult) : Prop := StLogRecord.rd w x.record
theorem StRecordResult.rd.kept {R : Nat → Prop} {w w' : World} {x : StRecordResult} (h : StRecordResult.rd w x) (hk : Kept R w w') (hr : ∀ b, Rf x.rows b → ¬ R b) : StRecordResult.rd w' x :=
 StLogRecord.rd.kept (h) hk (fun b hb => hr b (hb))
theorem StRecordResult.rd.same {w w' : World} {x : StRecordResult} (h : StRecordResult.rd w x) (hk : Same w w') : StRecordResult.rd w' x := h.kept hk (fun _ _ => id)
theorem StRecordResult.own_rd {w : World} {x : StRecordResult} (h : OwnL w x.rows) : StRecordResult.rd w x :=
 (StLogRecord.own_rd h)
def StRecordResult.szs (x : StRecordResult) : Int := x.record.szs
theorem StRecordResult.szs_le (x : StRecordResult) : 0 ≤ x.szs := by
 unfold StRecordResult.szs
 have h0 := x.record.szs_le
 omega
end Go.Proofs.YtaojjcnmififoaaGreat
