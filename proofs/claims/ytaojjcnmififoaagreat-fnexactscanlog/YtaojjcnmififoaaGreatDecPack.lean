import Derived.Test.YtaojjcnmififoaaGreatG36
import Derived.Test.YtaojjcnmififoaaGreatEncTyped
import Derived.Test.YtaojjcnmififoaaGreatG19
import Derived.Test.YtaojjcnmififoaaGreatG16
import Derived.Test.YtaojjcnmififoaaGreatPlainRec
import Derived.Test.YtaojjcnmififoaaGreatG18
namespace Go.Proofs.YtaojjcnmififoaaGreat
set_option maxRecDepth 100000
set_option maxHeartbeats 4000000
set_option linter.unusedVariables false
set_option linter.unusedSimpArgs false
open Go.RowKit
theorem Ww {k t p : Int} {r : List Int} (h : IsB r) : IsB (Ru nI (fun rs n => rs.take n) k t p r).2.2.2.2.2.1.2 ∧ IsB (Ru nI (fun rs n => rs.take n) k t p r).2.2.2.2.2.2.1.2 ∧ IsB (Ru nI (fun rs n => rs.take n) k t p r).2.2.2.2.2.2.2.2.2.2.2 ∧ (Ru nI (fun rs n => rs.take n) k t p r).2.2.2.2.2.1.2.length ≤ 65535 ∧ (Ru nI (fun rs n => rs.take n) k t p r).2.2.2.2.2.2.1.2.length ≤ 65535 ∧ (Ru nI (fun rs n => rs.take n) k t p r).2.2.2.2.2.2.2.2.2.1.length ≤ 1020 ∧ (Ru nI (fun rs n => rs.take n) k t p r).2.2.2.2.2.2.2.2.2.2.1.length ≤ 510 ∧ (Ru nI (fun rs n => rs.take n) k t p r).2.2.2.2.2.2.2.2.2.2.2.length ≤ 4096 := by
 have s1 := Xo (h.dropI 4)
 have s2 := Xo s1.2.1
 have nl : IsB [] := fun x hx => by simp at hx
 have l0 : ([] : List Int).length ≤ 510 := by simp
 unfold Ru
 split
 ·exact ⟨s1.1, s2.1, nl, s1.2.2.1, s2.2.2.1, by simp, by simp, by simp⟩
 split
 ·exact ⟨nl, s1.1, nl, by simp, s1.2.2.1, by simp, by simp, by simp⟩
 split
 ·have h1 := jal (h.dropI 4)
  have h2 := jal ((h.dropI 5).dropI (21 * (nI (r.drop 4) 1).toNat))
  refine ⟨nl, nl, nl, by simp, by simp, ?_, ?_, by simp⟩
  ·show (txL nI _ _).length ≤ 1020
   unfold txL
   rw [Tx (m := 4) (fun i => rfl)]
   omega
  ·show (dyL nI _ _).length ≤ 510
   unfold dyL
   rw [Tx (m := 2) (fun i => rfl)]
   omega
 split
 ·exact ⟨nl, nl, fun x hx => h.dropI 2 x (List.mem_of_mem_take hx), by simp, by simp, by simp, by simp, by simp only [List.length_take]; omega⟩
 ·exact ⟨nl, nl, nl, by simp, by simp, by simp, by simp, by simp⟩
theorem jeZ {y : StLogRecord} {bs : List Int} (hB : IsB bs) (hd : y.dat = UK bs) : IsB y.before.data.bs ∧ IsB y.after.data.bs ∧ IsB y.image.bs := by
 obtain ⟨h1, h2, h3, h4, h5, h6, h7, h8⟩ := Ww (k := nI bs 1) (t := if nI bs 1 ≤ 5 then nI (bs.drop 1) 4 else 0) (p := if nI bs 1 ≤ 5 then nI (bs.drop 5) 8 else 0) (hB.dropI 13)
 change y.dat = Ru nI (fun rs n => rs.take n) (nI bs 1) (if nI bs 1 ≤ 5 then nI (bs.drop 1) 4 else 0) (if nI bs 1 ≤ 5 then nI (bs.drop 5) 8 else 0) (bs.drop 13) at hd
 rw [← hd] at h1 h2 h3
 exact ⟨h1, h2, h3⟩
def Bnd (y : StLogRecord) : Prop := (y.before.data.bs.length ≤ 1099511627776 ∧ y.after.data.bs.length ≤ 1099511627776 ∧ y.txns.n ≤ 1048576 ∧ y.dirty.n ≤ 1048576 ∧ y.image.bs.length ≤ 1099511627776) ∧ IsB y.image.bs
theorem je0 {y : StLogRecord} {wx : World} {bs : List Int} (hB : IsB bs) (hd : y.dat = UK bs) (hr : StLogRecord.rd wx y) : Bnd y := by
 obtain ⟨h1, h2, h3, h4, h5, h6, h7, h8⟩ := Ww (k := nI bs 1) (t := if nI bs 1 ≤ 5 then nI (bs.drop 1) 4 else 0) (p := if nI bs 1 ≤ 5 then nI (bs.drop 5) 8 else 0) (hB.dropI 13)
 change y.dat = Ru nI (fun rs n => rs.take n) (nI bs 1) (if nI bs 1 ≤ 5 then nI (bs.drop 1) 4 else 0) (if nI bs 1 ≤ 5 then nI (bs.drop 5) 8 else 0) (bs.drop 13) at hd
 rw [← hd] at h1 h2 h3 h4 h5 h6 h7 h8
 have l1 := hr.2.2.1.2.1
 have l2 := hr.2.2.2.1.2.1
 simp only [StLogRecord.dat, StPageRecord.dat] at h3 h4 h5 h6 h7 h8
 exact ⟨⟨by omega, by omega, by omega, by omega, by omega⟩, h3⟩
def je1 (vv : Nat) (rc : Value) (F : Int) (w : World) : Prop := ∀ wx, Same w wx → Calls Tryz.prog vv #[rc] wx fun e w' => e = .returned (.int .i64 F) ∧ Same wx w'
def jdd (A : Value) (xs : List Int) (w : World) : Prop := ∀ wx, Same w wx → Calls Tryz.prog 70 #[A] wx fun e w' => ∃ aa nn cc, e = .returned (.slice aa nn cc) ∧ Own 0 5 .u8 w' (.slice aa nn cc) xs ∧ (∀ b, (Value.slice aa nn cc).ownBlock = some b → wx.heap.size ≤ b) ∧ Same wx w'
def je2 (A pv : Value) (w : World) : Prop := ∀ wx, Same w wx → Calls Tryz.prog 72 #[A] wx fun e w' => e = .returned pv ∧ Same wx w'
def TyP (y : StLogRecord) (w : World) : Prop := ∃ (T : TypeId) (A rc : Value) (vv : Nat), tyV y = .iface T A ∧ (∀ n wx, (method (n + 1) T A "loop.example/s02544/impl.fault").run Tryz.prog wx = .ok (vv, rc) wx) ∧ (∀ (args : Array Value) (wx : World), (callFunc vv args).run Tryz.prog wx = .ok (.enter vv args) wx) ∧ je1 vv rc (RJ y.dat) w ∧ (RJ y.dat = 0 → jdd (.iface T A) (RD y.dat) w) ∧ je2 (.iface T A) y.val w
theorem je3 (t p g s : Int) (bu : Bool) (be : TypeId) (ba : Option Addr) (bc : Nat) (bb : List Int) (au : Bool) (ae : TypeId) (aa : Option Addr) (ac : Nat) (ab : List Int) (w : World) (hn : Bnd { Ro 1 t p with page := g, slot := s, before := ⟨bu, be, ba, bc, bb⟩, after := ⟨au, ae, aa, ac, ab⟩ }) (hr : StLogRecord.rd w { Ro 1 t p with page := g, slot := s, before := ⟨bu, be, ba, bc, bb⟩, after := ⟨au, ae, aa, ac, ab⟩ }) : TyP { Ro 1 t p with page := g, slot := s, before := ⟨bu, be, ba, bc, bb⟩, after := ⟨au, ae, aa, ac, ab⟩ } w := by
 have hF : RJ (StLogRecord.dat { Ro 1 t p with page := g, slot := s, before := ⟨bu, be, ba, bc, bb⟩, after := ⟨au, ae, aa, ac, ab⟩ }) = orF (Rx t p) (Rt g s) (jaf bu au bb.length ab.length) := by
  simp [RJ, RV, StLogRecord.dat, StPageRecord.dat, Ro, nlB, nlF, Yi]
 refine ⟨144, (.agg #[.int .i64 t, .int .i64 p, .int .i64 g, .int .i64 s, .bool bu, .slice ba bb.length bc, .bool au, .slice aa ab.length ac]), (.agg #[.int .i64 t, .int .i64 p, .int .i64 g, .int .i64 s, .bool bu, .slice ba bb.length bc, .bool au, .slice aa ab.length ac]), 163, rfl, fun n wx => jfU n t p g s bu au ba bc bb aa ac ab wx, fun args wx => by simp [callFunc, go_sem, Tryz.func163, Tryz.f163], fun wx hk => ?_, fun hz wx hk => ?_, fun wx hk => ?_⟩
 ·rw [hF]
  exact XT t p g s bu au ba aa bb.length bc ab.length ac wx hr.1.1 hr.2.1.1
 ·have hg : RV 1 t p g s bu bb au ab 0 0 [] [] [] = 0 := hz
  obtain ⟨⟨nV, lm⟩, ⟨xr, pN⟩, cN, dL⟩ := jdI hg
  have jh : RD (StLogRecord.dat { Ro 1 t p with page := g, slot := s, before := ⟨bu, be, ba, bc, bb⟩, after := ⟨au, ae, aa, ac, ab⟩ }) = Rv 1 t p ++ (((Q6 g 2 ++ Q6 s 2) ++ Ry bu bb) ++ Ry au ab) := by simp [RD, RO, StLogRecord.dat, StPageRecord.dat, Ro, nlB, nlF]
  rw [jh]
  exact jbs t p g s bu ba bc bb au aa ac ab _ (by omega) (by omega) (by unfold IsI; omega) (by unfold IsI; omega) cN dL (Rd.same hr.1 hk) (Rd.same hr.2.1 hk)
 ·exact Zf t p g s bu ba bb.length bc au aa ab.length ac 0 0 none 0 0 none 0 0 none 0 0 wx
theorem je4 (t p g s u : Int) (au : Bool) (ae : TypeId) (aa : Option Addr) (ac : Nat) (ab : List Int) (w : World) (hn : Bnd { Ro 2 t p with page := g, slot := s, after := ⟨au, ae, aa, ac, ab⟩, uN := u }) (hr : StLogRecord.rd w { Ro 2 t p with page := g, slot := s, after := ⟨au, ae, aa, ac, ab⟩, uN := u }) : TyP { Ro 2 t p with page := g, slot := s, after := ⟨au, ae, aa, ac, ab⟩, uN := u } w := by
 have hF : RJ (StLogRecord.dat { Ro 2 t p with page := g, slot := s, after := ⟨au, ae, aa, ac, ab⟩, uN := u }) = orF (Rx t p) (Rt g s) (jag au ab.length u) := by
  simp [RJ, RV, StLogRecord.dat, StPageRecord.dat, Ro, nlB, nlF, Yj]
 refine ⟨146, (.agg #[.int .i64 t, .int .i64 p, .int .i64 g, .int .i64 s, .bool au, .slice aa ab.length ac, .int .i64 u]), (.agg #[.int .i64 t, .int .i64 p, .int .i64 g, .int .i64 s, .bool au, .slice aa ab.length ac, .int .i64 u]), 169, rfl, fun n wx => jfV n t p g s u au aa ac ab wx, fun args wx => by simp [callFunc, go_sem, Tryz.func169, Tryz.f169], fun wx hk => ?_, fun hz wx hk => ?_, fun wx hk => ?_⟩
 ·rw [hF]
  exact YZ t p g s au aa ab.length ac u wx hr.2.1.1
 ·have hg : RV 2 t p g s false [] au ab u 0 [] [] [] = 0 := hz
  obtain ⟨⟨nV, lm⟩, ⟨xr, pN⟩, cN, dL⟩ := jdJ hg
  have jh : RD (StLogRecord.dat { Ro 2 t p with page := g, slot := s, after := ⟨au, ae, aa, ac, ab⟩, uN := u }) = Rv 2 t p ++ (((Q6 g 2 ++ Q6 s 2) ++ Ry au ab) ++ Q6 u 8) := by simp [RD, RO, StLogRecord.dat, StPageRecord.dat, Ro, nlB, nlF]
  rw [jh]
  exact jbt t p g s au aa ac ab u _ (by omega) (by omega) (by unfold IsI; omega) (by unfold IsI; omega) (by unfold IsI; omega) cN (Rd.same hr.2.1 hk)
 ·exact Zg t p g s false none 0 0 au aa ab.length ac u 0 none 0 0 none 0 0 none 0 0 wx
theorem je5 (t p : Int) (w : World) (hn : Bnd (Ro 3 t p)) (hr : StLogRecord.rd w (Ro 3 t p)) : TyP (Ro 3 t p) w := by
 have hF : RJ (StLogRecord.dat (Ro 3 t p)) = Rx t p := by
  simp [RJ, RV, StLogRecord.dat, StPageRecord.dat, Ro, nlB, nlF, Yk]
 refine ⟨148, (.agg #[.int .i64 t, .int .i64 p]), (.agg #[.int .i64 t, .int .i64 p]), 156, rfl, fun n wx => jfW n t p wx, fun args wx => by simp [callFunc, go_sem, Tryz.func156, Tryz.f156], fun wx hk => ?_, fun hz wx hk => ?_, fun wx hk => ?_⟩
 ·rw [hF]
  exact RY t p wx
 ·have hg : RV 3 t p 0 0 false [] false [] 0 0 [] [] [] = 0 := hz
  obtain ⟨nV, lm⟩ := jdK hg
  have jh : RD (StLogRecord.dat (Ro 3 t p)) = Rv 3 t p ++ ([]) := by simp [RD, RO, StLogRecord.dat, StPageRecord.dat, Ro, nlB, nlF]
  rw [jh]
  exact jbu t p _ (by omega) (by omega)
 ·exact Zh t p 0 0 false none 0 0 false none 0 0 0 0 none 0 0 none 0 0 none 0 0 wx
theorem je6 (t p : Int) (w : World) (hn : Bnd (Ro 4 t p)) (hr : StLogRecord.rd w (Ro 4 t p)) : TyP (Ro 4 t p) w := by
 have hF : RJ (StLogRecord.dat (Ro 4 t p)) = Rx t p := by
  simp [RJ, RV, StLogRecord.dat, StPageRecord.dat, Ro, nlB, nlF, Yl]
 refine ⟨149, (.agg #[.int .i64 t, .int .i64 p]), (.agg #[.int .i64 t, .int .i64 p]), 156, rfl, fun n wx => jfX n t p wx, fun args wx => by simp [callFunc, go_sem, Tryz.func156, Tryz.f156], fun wx hk => ?_, fun hz wx hk => ?_, fun wx hk => ?_⟩
 ·rw [hF]
  exact RY t p wx
 ·have hg : RV 4 t p 0 0 false [] false [] 0 0 [] [] [] = 0 := hz
  obtain ⟨nV, lm⟩ := jdL hg
  have jh : RD (StLogRecord.dat (Ro 4 t p)) = Rv 4 t p ++ ([]) := by simp [RD, RO, StLogRecord.dat, StPageRecord.dat, Ro, nlB, nlF]
  rw [jh]
  exact jbv t p _ (by omega) (by omega)
 ·exact Zi t p 0 0 false none 0 0 false none 0 0 0 0 none 0 0 none 0 0 none 0 0 wx
theorem je7 (t p : Int) (w : World) (hn : Bnd (Ro 5 t p)) (hr : StLogRecord.rd w (Ro 5 t p)) : TyP (Ro 5 t p) w := by
 have hF : RJ (StLogRecord.dat (Ro 5 t p)) = Rx t p := by
  simp [RJ, RV, StLogRecord.dat, StPageRecord.dat, Ro, nlB, nlF, Ym]
 refine ⟨150, (.agg #[.int .i64 t, .int .i64 p]), (.agg #[.int .i64 t, .int .i64 p]), 156, rfl, fun n wx => jfY n t p wx, fun args wx => by simp [callFunc, go_sem, Tryz.func156, Tryz.f156], fun wx hk => ?_, fun hz wx hk => ?_, fun wx hk => ?_⟩
 ·rw [hF]
  exact RY t p wx
 ·have hg : RV 5 t p 0 0 false [] false [] 0 0 [] [] [] = 0 := hz
  obtain ⟨nV, lm⟩ := jdM hg
  have jh : RD (StLogRecord.dat (Ro 5 t p)) = Rv 5 t p ++ ([]) := by simp [RD, RO, StLogRecord.dat, StPageRecord.dat, Ro, nlB, nlF]
  rw [jh]
  exact jbw t p _ (by omega) (by omega)
 ·exact Zj t p 0 0 false none 0 0 false none 0 0 0 0 none 0 0 none 0 0 none 0 0 wx
theorem je8  (w : World) (hn : Bnd (Ro 6 0 0)) (hr : StLogRecord.rd w (Ro 6 0 0)) : TyP (Ro 6 0 0) w := by
 have hF : RJ (StLogRecord.dat (Ro 6 0 0)) = 0 := by
  simp [RJ, RV, StLogRecord.dat, StPageRecord.dat, Ro, nlB, nlF, Xj]
 refine ⟨151, (.agg #[.int .i64 0, .int .i64 0]), (.agg #[.int .i64 0, .int .i64 0]), 170, rfl, fun n wx => jfZ n wx, fun args wx => by simp [callFunc, go_sem, Tryz.func170, Tryz.f170], fun wx hk => ?_, fun hz wx hk => ?_, fun wx hk => ?_⟩
 ·rw [hF]
  exact Yh wx
 ·skip
  have jh : RD (StLogRecord.dat (Ro 6 0 0)) = Rv 6 0 0 ++ ([]) := by simp [RD, RO, StLogRecord.dat, StPageRecord.dat, Ro, nlB, nlF]
  rw [jh]
  exact jbx 0 0 _ (by omega) (by omega)
 ·exact Zk 0 0 0 0 false none 0 0 false none 0 0 0 0 none 0 0 none 0 0 none 0 0 wx
theorem je9 (u : Int) (te : TypeId) (ta : Option Addr) (tn tc : Nat) (tb : List Int) (de : TypeId) (da : Option Addr) (dn dc : Nat) (db : List Int) (w : World) (hn : Bnd { Ro 7 0 0 with nT := u, txns := ⟨te, ta, tn, tc, tb⟩, dirty := ⟨de, da, dn, dc, db⟩ }) (hr : StLogRecord.rd w { Ro 7 0 0 with nT := u, txns := ⟨te, ta, tn, tc, tb⟩, dirty := ⟨de, da, dn, dc, db⟩ }) : TyP { Ro 7 0 0 with nT := u, txns := ⟨te, ta, tn, tc, tb⟩, dirty := ⟨de, da, dn, dc, db⟩ } w := by
 have e1 : tb.length / 4 = tn := by have : tb.length = tn * 4 := hr.2.2.1.2.1; omega
 have e2 : db.length / 2 = dn := by have : db.length = dn * 2 := hr.2.2.2.1.2.1; omega
 have hF : RJ (StLogRecord.dat { Ro 7 0 0 with nT := u, txns := ⟨te, ta, tn, tc, tb⟩, dirty := ⟨de, da, dn, dc, db⟩ }) = jb2 u tb tn db dn := by
  simp [RJ, RV, StLogRecord.dat, StPageRecord.dat, Ro, nlB, nlF, Xk, e1, e2]
 refine ⟨155, (.agg #[.int .i64 0, .int .i64 0, .int .i64 u, .slice ta tn tc, .slice da dn dc]), (.agg #[.int .i64 0, .int .i64 0, .int .i64 u, .slice ta tn tc, .slice da dn dc]), 172, rfl, fun n wx => jf0 n u ta tn tc da dn dc wx, fun args wx => by simp [callFunc, go_sem, Tryz.func172, Tryz.f172], fun wx hk => ?_, fun hz wx hk => ?_, fun wx hk => ?_⟩
 ·rw [hF]
  have h := XU u ⟨te, ta, tn, tc, tb⟩ ⟨de, da, dn, dc, db⟩ wx (RdF.same hr.2.2.1 hk) (RdF.same hr.2.2.2.1 hk)
  exact h
 ·have hg : RV 7 0 0 0 0 false [] false [] 0 u tb db [] = 0 := hz
  obtain ⟨uA, pS, nV, lm, wH⟩ := jaX hg
  rw [e1] at lm
  rw [e2] at wH
  obtain ⟨ql, pK⟩ := jb5 lm
  obtain ⟨ky, pP⟩ := jb6 wH
  have jh : RD (StLogRecord.dat { Ro 7 0 0 with nT := u, txns := ⟨te, ta, tn, tc, tb⟩, dirty := ⟨de, da, dn, dc, db⟩ }) = Rv 7 0 0 ++ ((((Q6 u 4 ++ Q6 (tn : Nat) 1) ++ RG tb tn) ++ Q6 (dn : Nat) 1) ++ Tg db dn) := by simp [RD, RO, StLogRecord.dat, StPageRecord.dat, Ro, nlB, nlF, e1, e2]
  rw [jh]
  exact jby 0 0 u te ta tn tc tb de da dn dc db _ (by omega) (by omega) nV ql ky pK pP (RdF.same hr.2.2.1 hk) (RdF.same hr.2.2.2.1 hk)
 ·exact Zl 0 0 0 0 false none 0 0 false none 0 0 0 u ta tn tc da dn dc none 0 0 wx
theorem jfa (g : Int) (ie : TypeId) (ia : Option Addr) (ic : Nat) (ib : List Int) (w : World) (hn : Bnd { Ro 8 0 0 with page := g, image := ⟨ie, ia, ic, ib⟩ }) (hr : StLogRecord.rd w { Ro 8 0 0 with page := g, image := ⟨ie, ia, ic, ib⟩ }) : TyP { Ro 8 0 0 with page := g, image := ⟨ie, ia, ic, ib⟩ } w := by
 have hF : RJ (StLogRecord.dat { Ro 8 0 0 with page := g, image := ⟨ie, ia, ic, ib⟩ }) = jb1 g ib := by
  simp [RJ, RV, StLogRecord.dat, StPageRecord.dat, Ro, nlB, nlF, Xl]
 refine ⟨158, (.agg #[.int .i64 0, .int .i64 0, .int .i64 g, .slice ia ib.length ic]), (.agg #[.int .i64 0, .int .i64 0, .int .i64 g, .slice ia ib.length ic]), 176, rfl, fun n wx => jf1 n g ia ic ib wx, fun args wx => by simp [callFunc, go_sem, Tryz.func176, Tryz.f176], fun wx hk => ?_, fun hz wx hk => ?_, fun wx hk => ?_⟩
 ·rw [hF]
  exact Yg g ia ic ib wx hn.2 hn.1.2.2.2.2 (Rd.same hr.2.2.2.2 hk)
 ·have hg : RV 8 0 0 g 0 false [] false [] 0 0 [] [] ib = 0 := hz
  obtain ⟨uA, pS, xr, pN⟩ := jaY hg
  have jh : RD (StLogRecord.dat { Ro 8 0 0 with page := g, image := ⟨ie, ia, ic, ib⟩ }) = Rv 8 0 0 ++ (Q6 g 2 ++ ib) := by simp [RD, RO, StLogRecord.dat, StPageRecord.dat, Ro, nlB, nlF]
  rw [jh]
  exact jbz 0 0 g ia ic ib _ (by omega) (by omega) (by unfold IsI; omega) (by omega) (Rd.same hr.2.2.2.2 hk)
 ·exact Zm 0 0 g 0 false none 0 0 false none 0 0 0 0 none 0 0 none 0 0 ia ib.length ic wx
theorem jde {y : StLogRecord} (ht : Typed y) (hk : 1 ≤ y.kind ∧ y.kind ≤ 8) (w : World) (hn : Bnd y) (hr : StLogRecord.rd w y) : TyP y w := by
 rcases ht with ⟨t, p, g, s, q1, q2, rfl⟩ | ⟨t, p, g, s, u, q, rfl⟩ | ⟨t, p, rfl⟩ | ⟨t, p, rfl⟩ | ⟨t, p, rfl⟩ | rfl | ⟨u, tx, dy, rfl⟩ | ⟨g, im, rfl⟩ | ⟨k, t, p, h, rfl⟩
 ·obtain ⟨bu, ⟨be, ba, bc, bb⟩⟩ := q1; obtain ⟨au, ⟨ae, aa, ac, ab⟩⟩ := q2; exact je3 t p g s bu be ba bc bb au ae aa ac ab w hn hr
 ·obtain ⟨au, ⟨ae, aa, ac, ab⟩⟩ := q; exact je4 t p g s u au ae aa ac ab w hn hr
 ·exact je5 t p w hn hr
 ·exact je6 t p w hn hr
 ·exact je7 t p w hn hr
 ·exact je8 w hn hr
 ·obtain ⟨te, ta, tn, tc, tb⟩ := tx; obtain ⟨de, da, dn, dc, db⟩ := dy; exact je9 u te ta tn tc tb de da dn dc db w hn hr
 ·obtain ⟨ie, ia, ic, ib⟩ := im; exact jfa g ie ia ic ib w hn hr
 ·exact absurd hk h
end Go.Proofs.YtaojjcnmififoaaGreat
