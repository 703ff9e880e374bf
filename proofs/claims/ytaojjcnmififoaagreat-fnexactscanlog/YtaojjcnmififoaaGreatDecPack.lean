import Derived.Test.YtaojjcnmififoaaGreatG36
import Derived.Test.YtaojjcnmififoaaGreatEncTyped
import Derived.Test.YtaojjcnmififoaaGreatG19
import Derived.Test.YtaojjcnmififoaaGreatG16
import Derived.Test.YtaojjcnmififoaaGreatPlainRec
import Derived.Test.YtaojjcnmififoaaGreatG18
namespace Go.Proofs.YtaojjcnmififoaaGreat
set_option maxRecDepth 100000
set_option maxHeartbeats 4000000
set_option linter.unusedVariables false
set_option linter.unusedSimpArgs false
open Go.RowKit
theorem rdBodyI_good {k t p : Int} {r : List Int} (h : IsB r) : IsB (rdBody nI (fun rs n => rs.take n) k t p r).2.2.2.2.2.1.2 ∧ IsB (rdBody nI (fun rs n => rs.take n) k t p r).2.2.2.2.2.2.1.2 ∧ IsB (rdBody nI (fun rs n => rs.take n) k t p r).2.2.2.2.2.2.2.2.2.2.2 ∧ (rdBody nI (fun rs n => rs.take n) k t p r).2.2.2.2.2.1.2.length ≤ 65535 ∧ (rdBody nI (fun rs n => rs.take n) k t p r).2.2.2.2.2.2.1.2.length ≤ 65535 ∧ (rdBody nI (fun rs n => rs.take n) k t p r).2.2.2.2.2.2.2.2.2.1.length ≤ 1020 ∧ (rdBody nI (fun rs n => rs.take n) k t p r).2.2.2.2.2.2.2.2.2.2.1.length ≤ 510 ∧ (rdBody nI (fun rs n => rs.take n) k t p r).2.2.2.2.2.2.2.2.2.2.2.length ≤ 4096 := by
 have s1 := slI_ok (h.dropI 4)
 have s2 := slI_ok s1.2.1
 have nl : IsB [] := fun x hx => by simp at hx
 have l0 : ([] : List Int).length ≤ 510 := by simp
 unfold rdBody
 split
 ·exact ⟨s1.1, s2.1, nl, s1.2.2.1, s2.2.2.1, by simp, by simp, by simp⟩
 split
 ·exact ⟨nl, s1.1, nl, by simp, s1.2.2.1, by simp, by simp, by simp⟩
 split
 ·have h1 := nI_one (h.dropI 4)
  have h2 := nI_one ((h.dropI 5).dropI (21 * (nI (r.drop 4) 1).toNat))
  refine ⟨nl, nl, nl, by simp, by simp, ?_, ?_, by simp⟩
  ·show (txL nI _ _).length ≤ 1020
   unfold txL
   rw [flatMap_len (m := 4) (fun i => rfl)]
   omega
  ·show (dyL nI _ _).length ≤ 510
   unfold dyL
   rw [flatMap_len (m := 2) (fun i => rfl)]
   omega
 split
 ·exact ⟨nl, nl, fun x hx => h.dropI 2 x (List.mem_of_mem_take hx), by simp, by simp, by simp, by simp, by simp only [List.length_take]; omega⟩
 ·exact ⟨nl, nl, nl, by simp, by simp, by simp, by simp, by simp⟩
theorem isB_of {y : StLogRecord} {bs : List Int} (hB : IsB bs) (hd : y.dat = parI bs) : IsB y.before.data.bs ∧ IsB y.after.data.bs ∧ IsB y.image.bs := by
 obtain ⟨h1, h2, h3, h4, h5, h6, h7, h8⟩ := rdBodyI_good (k := nI bs 1) (t := if nI bs 1 ≤ 5 then nI (bs.drop 1) 4 else 0) (p := if nI bs 1 ≤ 5 then nI (bs.drop 5) 8 else 0) (hB.dropI 13)
 change y.dat = rdBody nI (fun rs n => rs.take n) (nI bs 1) (if nI bs 1 ≤ 5 then nI (bs.drop 1) 4 else 0) (if nI bs 1 ≤ 5 then nI (bs.drop 5) 8 else 0) (bs.drop 13) at hd
 rw [← hd] at h1 h2 h3
 exact ⟨h1, h2, h3⟩
def Bnd (y : StLogRecord) : Prop := (y.before.data.bs.length ≤ 1099511627776 ∧ y.after.data.bs.length ≤ 1099511627776 ∧ y.txns.n ≤ 1048576 ∧ y.dirty.n ≤ 1048576 ∧ y.image.bs.length ≤ 1099511627776) ∧ IsB y.image.bs
theorem bnd_of {y : StLogRecord} {wx : World} {bs : List Int} (hB : IsB bs) (hd : y.dat = parI bs) (hr : StLogRecord.rd wx y) : Bnd y := by
 obtain ⟨h1, h2, h3, h4, h5, h6, h7, h8⟩ := rdBodyI_good (k := nI bs 1) (t := if nI bs 1 ≤ 5 then nI (bs.drop 1) 4 else 0) (p := if nI bs 1 ≤ 5 then nI (bs.drop 5) 8 else 0) (hB.dropI 13)
 change y.dat = rdBody nI (fun rs n => rs.take n) (nI bs 1) (if nI bs 1 ≤ 5 then nI (bs.drop 1) 4 else 0) (if nI bs 1 ≤ 5 then nI (bs.drop 5) 8 else 0) (bs.drop 13) at hd
 rw [← hd] at h1 h2 h3 h4 h5 h6 h7 h8
 have l1 := hr.2.2.1.2.1
 have l2 := hr.2.2.2.1.2.1
 simp only [StLogRecord.dat, StPageRecord.dat] at h3 h4 h5 h6 h7 h8
 exact ⟨⟨by omega, by omega, by omega, by omega, by omega⟩, h3⟩
def FCalls (fid : Nat) (rc : Value) (F : Int) (w : World) : Prop := ∀ wx, Same w wx → Calls Tryz.prog fid #[rc] wx fun e w' => e = .returned (.int .i64 F) ∧ Same wx w'
def ECalls (A : Value) (xs : List Int) (w : World) : Prop := ∀ wx, Same w wx → Calls Tryz.prog 70 #[A] wx fun e w' => ∃ aa nn cc, e = .returned (.slice aa nn cc) ∧ Own 0 5 .u8 w' (.slice aa nn cc) xs ∧ (∀ b, (Value.slice aa nn cc).ownBlock = some b → wx.heap.size ≤ b) ∧ Same wx w'
def PCalls (A pv : Value) (w : World) : Prop := ∀ wx, Same w wx → Calls Tryz.prog 72 #[A] wx fun e w' => e = .returned pv ∧ Same wx w'
def TyP (y : StLogRecord) (w : World) : Prop := ∃ (T : TypeId) (A rc : Value) (fid : Nat), tyV y = .iface T A ∧ (∀ n wx, (method (n + 1) T A "loop.example/s02544/impl.fault").run Tryz.prog wx = .ok (fid, rc) wx) ∧ (∀ (args : Array Value) (wx : World), (callFunc fid args).run Tryz.prog wx = .ok (.enter fid args) wx) ∧ FCalls fid rc (recFd y.dat) w ∧ (recFd y.dat = 0 → ECalls (.iface T A) (recBd y.dat) w) ∧ PCalls (.iface T A) y.val w
theorem pack_1 (t p g s : Int) (bu : Bool) (be : TypeId) (ba : Option Addr) (bc : Nat) (bb : List Int) (au : Bool) (ae : TypeId) (aa : Option Addr) (ac : Nat) (ab : List Int) (w : World) (hn : Bnd { recK 1 t p with page := g, slot := s, before := ⟨bu, be, ba, bc, bb⟩, after := ⟨au, ae, aa, ac, ab⟩ }) (hr : StLogRecord.rd w { recK 1 t p with page := g, slot := s, before := ⟨bu, be, ba, bc, bb⟩, after := ⟨au, ae, aa, ac, ab⟩ }) : TyP { recK 1 t p with page := g, slot := s, before := ⟨bu, be, ba, bc, bb⟩, after := ⟨au, ae, aa, ac, ab⟩ } w := by
 have hF : recFd (StLogRecord.dat { recK 1 t p with page := g, slot := s, before := ⟨bu, be, ba, bc, bb⟩, after := ⟨au, ae, aa, ac, ab⟩ }) = orF (headF t p) (placeF g s) (updF bu au bb.length ab.length) := by
  simp [recFd, recF, StLogRecord.dat, StPageRecord.dat, recK, nlB, nlF, alone1]
 refine ⟨144, (.agg #[.int .i64 t, .int .i64 p, .int .i64 g, .int .i64 s, .bool bu, .slice ba bb.length bc, .bool au, .slice aa ab.length ac]), (.agg #[.int .i64 t, .int .i64 p, .int .i64 g, .int .i64 s, .bool bu, .slice ba bb.length bc, .bool au, .slice aa ab.length ac]), 163, rfl, fun n wx => inv_1 n t p g s bu au ba bc bb aa ac ab wx, fun args wx => by simp [callFunc, go_sem, Tryz.func163, Tryz.f163], fun wx hk => ?_, fun hz wx hk => ?_, fun wx hk => ?_⟩
 ·rw [hF]
  exact updateFault_any t p g s bu au ba aa bb.length bc ab.length ac wx hr.1.1 hr.2.1.1
 ·have hg : recF 1 t p g s bu bb au ab 0 0 [] [] [] = 0 := hz
  obtain ⟨⟨hh1, hh2⟩, ⟨hp1, hp2⟩, hb1, hb2⟩ := good1 hg
  have hwz : recBd (StLogRecord.dat { recK 1 t p with page := g, slot := s, before := ⟨bu, be, ba, bc, bb⟩, after := ⟨au, ae, aa, ac, ab⟩ }) = headR 1 t p ++ (((numB g 2 ++ numB s 2) ++ partB bu bb) ++ partB au ab) := by simp [recBd, recBy, StLogRecord.dat, StPageRecord.dat, recK, nlB, nlF]
  rw [hwz]
  exact encTyped_1 t p g s bu ba bc bb au aa ac ab _ (by omega) (by omega) (by unfold IsI; omega) (by unfold IsI; omega) hb1 hb2 (Rd.same hr.1 hk) (Rd.same hr.2.1 hk)
 ·exact plainRecord_1 t p g s bu ba bb.length bc au aa ab.length ac 0 0 none 0 0 none 0 0 none 0 0 wx
theorem pack_2 (t p g s u : Int) (au : Bool) (ae : TypeId) (aa : Option Addr) (ac : Nat) (ab : List Int) (w : World) (hn : Bnd { recK 2 t p with page := g, slot := s, after := ⟨au, ae, aa, ac, ab⟩, uN := u }) (hr : StLogRecord.rd w { recK 2 t p with page := g, slot := s, after := ⟨au, ae, aa, ac, ab⟩, uN := u }) : TyP { recK 2 t p with page := g, slot := s, after := ⟨au, ae, aa, ac, ab⟩, uN := u } w := by
 have hF : recFd (StLogRecord.dat { recK 2 t p with page := g, slot := s, after := ⟨au, ae, aa, ac, ab⟩, uN := u }) = orF (headF t p) (placeF g s) (undF au ab.length u) := by
  simp [recFd, recF, StLogRecord.dat, StPageRecord.dat, recK, nlB, nlF, alone2]
 refine ⟨146, (.agg #[.int .i64 t, .int .i64 p, .int .i64 g, .int .i64 s, .bool au, .slice aa ab.length ac, .int .i64 u]), (.agg #[.int .i64 t, .int .i64 p, .int .i64 g, .int .i64 s, .bool au, .slice aa ab.length ac, .int .i64 u]), 169, rfl, fun n wx => inv_2 n t p g s u au aa ac ab wx, fun args wx => by simp [callFunc, go_sem, Tryz.func169, Tryz.f169], fun wx hk => ?_, fun hz wx hk => ?_, fun wx hk => ?_⟩
 ·rw [hF]
  exact undoFault_any t p g s au aa ab.length ac u wx hr.2.1.1
 ·have hg : recF 2 t p g s false [] au ab u 0 [] [] [] = 0 := hz
  obtain ⟨⟨hh1, hh2⟩, ⟨hp1, hp2⟩, hb1, hb2⟩ := good2 hg
  have hwz : recBd (StLogRecord.dat { recK 2 t p with page := g, slot := s, after := ⟨au, ae, aa, ac, ab⟩, uN := u }) = headR 2 t p ++ (((numB g 2 ++ numB s 2) ++ partB au ab) ++ numB u 8) := by simp [recBd, recBy, StLogRecord.dat, StPageRecord.dat, recK, nlB, nlF]
  rw [hwz]
  exact encTyped_2 t p g s au aa ac ab u _ (by omega) (by omega) (by unfold IsI; omega) (by unfold IsI; omega) (by unfold IsI; omega) hb1 (Rd.same hr.2.1 hk)
 ·exact plainRecord_2 t p g s false none 0 0 au aa ab.length ac u 0 none 0 0 none 0 0 none 0 0 wx
theorem pack_3 (t p : Int) (w : World) (hn : Bnd (recK 3 t p)) (hr : StLogRecord.rd w (recK 3 t p)) : TyP (recK 3 t p) w := by
 have hF : recFd (StLogRecord.dat (recK 3 t p)) = headF t p := by
  simp [recFd, recF, StLogRecord.dat, StPageRecord.dat, recK, nlB, nlF, alone3]
 refine ⟨148, (.agg #[.int .i64 t, .int .i64 p]), (.agg #[.int .i64 t, .int .i64 p]), 156, rfl, fun n wx => inv_3 n t p wx, fun args wx => by simp [callFunc, go_sem, Tryz.func156, Tryz.f156], fun wx hk => ?_, fun hz wx hk => ?_, fun wx hk => ?_⟩
 ·rw [hF]
  exact headFault_any t p wx
 ·have hg : recF 3 t p 0 0 false [] false [] 0 0 [] [] [] = 0 := hz
  obtain ⟨hh1, hh2⟩ := good3 hg
  have hwz : recBd (StLogRecord.dat (recK 3 t p)) = headR 3 t p ++ ([]) := by simp [recBd, recBy, StLogRecord.dat, StPageRecord.dat, recK, nlB, nlF]
  rw [hwz]
  exact encTyped_3 t p _ (by omega) (by omega)
 ·exact plainRecord_3 t p 0 0 false none 0 0 false none 0 0 0 0 none 0 0 none 0 0 none 0 0 wx
theorem pack_4 (t p : Int) (w : World) (hn : Bnd (recK 4 t p)) (hr : StLogRecord.rd w (recK 4 t p)) : TyP (recK 4 t p) w := by
 have hF : recFd (StLogRecord.dat (recK 4 t p)) = headF t p := by
  simp [recFd, recF, StLogRecord.dat, StPageRecord.dat, recK, nlB, nlF, alone4]
 refine ⟨149, (.agg #[.int .i64 t, .int .i64 p]), (.agg #[.int .i64 t, .int .i64 p]), 156, rfl, fun n wx => inv_4 n t p wx, fun args wx => by simp [callFunc, go_sem, Tryz.func156, Tryz.f156], fun wx hk => ?_, fun hz wx hk => ?_, fun wx hk => ?_⟩
 ·rw [hF]
  exact headFault_any t p wx
 ·have hg : recF 4 t p 0 0 false [] false [] 0 0 [] [] [] = 0 := hz
  obtain ⟨hh1, hh2⟩ := good4 hg
  have hwz : recBd (StLogRecord.dat (recK 4 t p)) = headR 4 t p ++ ([]) := by simp [recBd, recBy, StLogRecord.dat, StPageRecord.dat, recK, nlB, nlF]
  rw [hwz]
  exact encTyped_4 t p _ (by omega) (by omega)
 ·exact plainRecord_4 t p 0 0 false none 0 0 false none 0 0 0 0 none 0 0 none 0 0 none 0 0 wx
theorem pack_5 (t p : Int) (w : World) (hn : Bnd (recK 5 t p)) (hr : StLogRecord.rd w (recK 5 t p)) : TyP (recK 5 t p) w := by
 have hF : recFd (StLogRecord.dat (recK 5 t p)) = headF t p := by
  simp [recFd, recF, StLogRecord.dat, StPageRecord.dat, recK, nlB, nlF, alone5]
 refine ⟨150, (.agg #[.int .i64 t, .int .i64 p]), (.agg #[.int .i64 t, .int .i64 p]), 156, rfl, fun n wx => inv_5 n t p wx, fun args wx => by simp [callFunc, go_sem, Tryz.func156, Tryz.f156], fun wx hk => ?_, fun hz wx hk => ?_, fun wx hk => ?_⟩
 ·rw [hF]
  exact headFault_any t p wx
 ·have hg : recF 5 t p 0 0 false [] false [] 0 0 [] [] [] = 0 := hz
  obtain ⟨hh1, hh2⟩ := good5 hg
  have hwz : recBd (StLogRecord.dat (recK 5 t p)) = headR 5 t p ++ ([]) := by simp [recBd, recBy, StLogRecord.dat, StPageRecord.dat, recK, nlB, nlF]
  rw [hwz]
  exact encTyped_5 t p _ (by omega) (by omega)
 ·exact plainRecord_5 t p 0 0 false none 0 0 false none 0 0 0 0 none 0 0 none 0 0 none 0 0 wx
theorem pack_6  (w : World) (hn : Bnd (recK 6 0 0)) (hr : StLogRecord.rd w (recK 6 0 0)) : TyP (recK 6 0 0) w := by
 have hF : recFd (StLogRecord.dat (recK 6 0 0)) = 0 := by
  simp [recFd, recF, StLogRecord.dat, StPageRecord.dat, recK, nlB, nlF, alone6]
 refine ⟨151, (.agg #[.int .i64 0, .int .i64 0]), (.agg #[.int .i64 0, .int .i64 0]), 170, rfl, fun n wx => inv_6 n wx, fun args wx => by simp [callFunc, go_sem, Tryz.func170, Tryz.f170], fun wx hk => ?_, fun hz wx hk => ?_, fun wx hk => ?_⟩
 ·rw [hF]
  exact beginFault_any wx
 ·skip
  have hwz : recBd (StLogRecord.dat (recK 6 0 0)) = headR 6 0 0 ++ ([]) := by simp [recBd, recBy, StLogRecord.dat, StPageRecord.dat, recK, nlB, nlF]
  rw [hwz]
  exact encTyped_6 0 0 _ (by omega) (by omega)
 ·exact plainRecord_6 0 0 0 0 false none 0 0 false none 0 0 0 0 none 0 0 none 0 0 none 0 0 wx
theorem pack_7 (u : Int) (te : TypeId) (ta : Option Addr) (tn tc : Nat) (tb : List Int) (de : TypeId) (da : Option Addr) (dn dc : Nat) (db : List Int) (w : World) (hn : Bnd { recK 7 0 0 with nT := u, txns := ⟨te, ta, tn, tc, tb⟩, dirty := ⟨de, da, dn, dc, db⟩ }) (hr : StLogRecord.rd w { recK 7 0 0 with nT := u, txns := ⟨te, ta, tn, tc, tb⟩, dirty := ⟨de, da, dn, dc, db⟩ }) : TyP { recK 7 0 0 with nT := u, txns := ⟨te, ta, tn, tc, tb⟩, dirty := ⟨de, da, dn, dc, db⟩ } w := by
 have e1 : tb.length / 4 = tn := by have : tb.length = tn * 4 := hr.2.2.1.2.1; omega
 have e2 : db.length / 2 = dn := by have : db.length = dn * 2 := hr.2.2.2.1.2.1; omega
 have hF : recFd (StLogRecord.dat { recK 7 0 0 with nT := u, txns := ⟨te, ta, tn, tc, tb⟩, dirty := ⟨de, da, dn, dc, db⟩ }) = tabF u tb tn db dn := by
  simp [recFd, recF, StLogRecord.dat, StPageRecord.dat, recK, nlB, nlF, alone7, e1, e2]
 refine ⟨155, (.agg #[.int .i64 0, .int .i64 0, .int .i64 u, .slice ta tn tc, .slice da dn dc]), (.agg #[.int .i64 0, .int .i64 0, .int .i64 u, .slice ta tn tc, .slice da dn dc]), 172, rfl, fun n wx => inv_7 n u ta tn tc da dn dc wx, fun args wx => by simp [callFunc, go_sem, Tryz.func172, Tryz.f172], fun wx hk => ?_, fun hz wx hk => ?_, fun wx hk => ?_⟩
 ·rw [hF]
  have h := tablesFault_any u ⟨te, ta, tn, tc, tb⟩ ⟨de, da, dn, dc, db⟩ wx (RdF.same hr.2.2.1 hk) (RdF.same hr.2.2.2.1 hk)
  exact h
 ·have hg : recF 7 0 0 0 0 false [] false [] 0 u tb db [] = 0 := hz
  obtain ⟨ht0, hp0, hh1, hh2, hh3⟩ := good7 hg
  rw [e1] at hh2
  rw [e2] at hh3
  obtain ⟨hn8, htg⟩ := tXgood hh2
  obtain ⟨hn16, hdg⟩ := dYgood hh3
  have hwz : recBd (StLogRecord.dat { recK 7 0 0 with nT := u, txns := ⟨te, ta, tn, tc, tb⟩, dirty := ⟨de, da, dn, dc, db⟩ }) = headR 7 0 0 ++ ((((numB u 4 ++ numB (tn : Nat) 1) ++ txsB tb tn) ++ numB (dn : Nat) 1) ++ dysB db dn) := by simp [recBd, recBy, StLogRecord.dat, StPageRecord.dat, recK, nlB, nlF, e1, e2]
  rw [hwz]
  exact encTyped_7 0 0 u te ta tn tc tb de da dn dc db _ (by omega) (by omega) hh1 hn8 hn16 htg hdg (RdF.same hr.2.2.1 hk) (RdF.same hr.2.2.2.1 hk)
 ·exact plainRecord_7 0 0 0 0 false none 0 0 false none 0 0 0 u ta tn tc da dn dc none 0 0 wx
theorem pack_8 (g : Int) (ie : TypeId) (ia : Option Addr) (ic : Nat) (ib : List Int) (w : World) (hn : Bnd { recK 8 0 0 with page := g, image := ⟨ie, ia, ic, ib⟩ }) (hr : StLogRecord.rd w { recK 8 0 0 with page := g, image := ⟨ie, ia, ic, ib⟩ }) : TyP { recK 8 0 0 with page := g, image := ⟨ie, ia, ic, ib⟩ } w := by
 have hF : recFd (StLogRecord.dat { recK 8 0 0 with page := g, image := ⟨ie, ia, ic, ib⟩ }) = imgF g ib := by
  simp [recFd, recF, StLogRecord.dat, StPageRecord.dat, recK, nlB, nlF, alone8]
 refine ⟨158, (.agg #[.int .i64 0, .int .i64 0, .int .i64 g, .slice ia ib.length ic]), (.agg #[.int .i64 0, .int .i64 0, .int .i64 g, .slice ia ib.length ic]), 176, rfl, fun n wx => inv_8 n g ia ic ib wx, fun args wx => by simp [callFunc, go_sem, Tryz.func176, Tryz.f176], fun wx hk => ?_, fun hz wx hk => ?_, fun wx hk => ?_⟩
 ·rw [hF]
  exact imageFault_any g ia ic ib wx hn.2 hn.1.2.2.2.2 (Rd.same hr.2.2.2.2 hk)
 ·have hg : recF 8 0 0 g 0 false [] false [] 0 0 [] [] ib = 0 := hz
  obtain ⟨ht0, hp0, hp1, hp2⟩ := good8 hg
  have hwz : recBd (StLogRecord.dat { recK 8 0 0 with page := g, image := ⟨ie, ia, ic, ib⟩ }) = headR 8 0 0 ++ (numB g 2 ++ ib) := by simp [recBd, recBy, StLogRecord.dat, StPageRecord.dat, recK, nlB, nlF]
  rw [hwz]
  exact encTyped_8 0 0 g ia ic ib _ (by omega) (by omega) (by unfold IsI; omega) (by omega) (Rd.same hr.2.2.2.2 hk)
 ·exact plainRecord_8 0 0 g 0 false none 0 0 false none 0 0 0 0 none 0 0 none 0 0 ia ib.length ic wx
theorem pack_any {y : StLogRecord} (ht : Typed y) (hk : 1 ≤ y.kind ∧ y.kind ≤ 8) (w : World) (hn : Bnd y) (hr : StLogRecord.rd w y) : TyP y w := by
 rcases ht with ⟨t, p, g, s, q1, q2, rfl⟩ | ⟨t, p, g, s, u, q, rfl⟩ | ⟨t, p, rfl⟩ | ⟨t, p, rfl⟩ | ⟨t, p, rfl⟩ | rfl | ⟨u, tx, dy, rfl⟩ | ⟨g, im, rfl⟩ | ⟨k, t, p, h, rfl⟩
 ·obtain ⟨bu, ⟨be, ba, bc, bb⟩⟩ := q1; obtain ⟨au, ⟨ae, aa, ac, ab⟩⟩ := q2; exact pack_1 t p g s bu be ba bc bb au ae aa ac ab w hn hr
 ·obtain ⟨au, ⟨ae, aa, ac, ab⟩⟩ := q; exact pack_2 t p g s u au ae aa ac ab w hn hr
 ·exact pack_3 t p w hn hr
 ·exact pack_4 t p w hn hr
 ·exact pack_5 t p w hn hr
 ·exact pack_6 w hn hr
 ·obtain ⟨te, ta, tn, tc, tb⟩ := tx; obtain ⟨de, da, dn, dc, db⟩ := dy; exact pack_7 u te ta tn tc tb de da dn dc db w hn hr
 ·obtain ⟨ie, ia, ic, ib⟩ := im; exact pack_8 g ie ia ic ib w hn hr
 ·exact absurd hk h
end Go.Proofs.YtaojjcnmififoaaGreat
