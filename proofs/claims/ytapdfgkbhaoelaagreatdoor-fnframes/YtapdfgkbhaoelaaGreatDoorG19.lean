import Derived.Test.YtapdfgkbhaoelaaGreatDoorG18
namespace Go.Proofs.YtapdfgkbhaoelaaGreatDoor
set_option maxRecDepth 100000
set_option maxHeartbeats 8000000
set_option linter.unusedVariables false
set_option linter.unusedSimpArgs false
open Go.RowKit
def takeB (bs : List Int) (o n : Nat) : List Int := (List.range n).map (fun i => bs.getD (o + i) 0)
theorem Q0 (bs : List Int) (o n : Nat) : (takeB bs o n).length = n := by simp [takeB]
theorem Vt (bs : List Int) (i : Nat) (h : bs.length ≤ i) : bs.getD i 0 = 0 := by simp [List.getD, List.getElem?_eq_none h]
theorem jcK {bs : List Int} (h : IsB bs) (i : Nat) : 0 ≤ bs.getD i 0 ∧ bs.getD i 0 ≤ 255 := by
 by_cases hi : i < bs.length
 ·exact h.at i hi
 ·rw [Vt _ _ (by omega)]; omega
theorem jbK {bs : List Int} (h : IsB bs) (o n : Nat) : IsB (takeB bs o n) := fun y hy => by
 obtain ⟨i, _, rfl⟩ := List.mem_map.1 hy;exact jcK h _
theorem jcL (bs : List Int) (o n : Nat) (h : o + n ≤ bs.length) : takeB bs o n = (bs.drop o).take n := by
 apply List.ext_getElem (by simp [takeB]; omega);intro i h1 h2;rw [Q0] at h1;simp [takeB, List.getD, List.getElem?_eq_getElem (show o + i < bs.length by omega)]
def UJ (bs : List Int) (o n k : Nat) : List Int := takeB bs o k ++ List.replicate (n - k) 0
theorem ZK (bs : List Int) (o n k : Nat) (h : k ≤ n) : (UJ bs o n k).length = n := by simp [UJ, Q0]; omega
theorem X9 (bs : List Int) (o n k : Nat) (h : k < n) : (UJ bs o n k).set k (bs.getD (o + k) 0) = UJ bs o n (k + 1) := by
 unfold UJ;rw [List.set_append_right _ _ (by simp [Q0]), Q0, Nat.sub_self, show n - k = (n - (k + 1)) + 1 from by omega, List.replicate_succ, List.set_cons_zero];simp [takeB, List.range_succ]
theorem jbL (bs : List Int) (o n k : Nat) (h : k < n) (hb : bs.length ≤ o + k) : UJ bs o n k = UJ bs o n (k + 1) := by
 rw [← X9 _ _ _ _ h];unfold UJ;rw [List.set_append_right _ _ (by simp [Q0]), Q0, Nat.sub_self, show n - k = (n - (k + 1)) + 1 from by omega, List.replicate_succ, List.set_cons_zero, Vt _ _ hb]
theorem jbM (bs : List Int) (o n : Nat) : UJ bs o n 0 = List.replicate n 0 := by simp [UJ, takeB]
theorem jcM (bs : List Int) (o n : Nat) : UJ bs o n n = takeB bs o n := by simp [UJ]
theorem WX (P : Nat) (v : Value) (bs : List Int) (o n : Nat) (w : World) (hn : n ≤ 1048576) (ho : o ≤ 1099511627776) (hl : bs.length ≤ 1099511627776) (hp : Blk w P 75 [v, Q1 o]) (hv : Rd .u8 w v bs) :
  Calls Tryz.prog 43 #[Q2 P 0, Q1 n] w fun e w' => ∃ g, e = .returned (Q3 g n n) ∧ w.heap.size ≤ g ∧ Own 0 5 .u8 w' (Q3 g n n) (takeB bs o n) ∧ Blk w' P 75 [v, Q1 ((o + n : Nat) : Int)] ∧ Kept (fun b => b = P) w w' := by
 obtain ⟨i0, hi, b8, cE, cP⟩ := info_parts Tryz.infoByte';obtain ⟨a, c, rfl⟩ := hv.form;have HV : Hid (Rd .u8 w (.slice a bs.length c) bs) := hv;have HP : Hid (Blk w P 75 [.slice a bs.length c, Q1 o]) := hp;have F5 := hp.lt;clear hv hp
 go_enter Tryz.func43, Tryz.ntmps43
 go_wp2_with (at_make; refine wpList_make_full _ rfl (.tmp 7) (.tmp 7) 22 rfl 0 5 i0 (.int .u8 0) 1 Tryz.underlying22 hi b8 cE .i64 .i64 _ _ n rfl rfl (by simp) (by simp) (by rw [cP]; omega) (by unfold maxLen; omega) (Nat.zero_le _) ?_; intro w1 bm aV; have HO : Hid (Own 0 5 .u8 w1 (.slice (some ⟨w.heap.size, 0, none⟩) n n) (List.replicate n 0)) := Tc (by simpa using bm); have HK : Hid (Same w w1) := Kept.of_grown aV (fun k e => by cases e); clear bm aV)
 go_loopw [6] (fun i wr => ∃ (k : Nat), k ≤ n ∧ i = Q1 k ∧ Hid (Own 0 5 .u8 wr (.slice (some ⟨w.heap.size, 0, none⟩) n n) (UJ bs o n k)) ∧ Hid (Same w wr)) (fun i _ => n - (intOf i).toNat)
 case atStart => exact ⟨0, Nat.zero_le _, rfl, by rw [jbM]; exact HO, HK⟩
 case round =>
  obtain ⟨k, hk, rfl, HOr, cJ⟩ := hrel
  by_cases bg : k < n
  ·let Y2 : World → Prop := fun wx => D0 wx P 0 (.slice a bs.length c) ∧ D0 wx P 1 (Q1 o)
   have hS : Y2 wr.drew := ⟨(HP.out.same cJ.out.drew).cell 0, (HP.out.same cJ.out.drew).cell 1⟩
   go_wp2_with fail
   refine O0 Y2 99 12 ?_;refine tk 0 14 hS ?_;refine tk 1 15 hS ?_;refine tk 2 16 hS ?_;refine tk 3 17 hS ?_;refine tk 4 18 hS ?_;refine tk 5 19 hS ?_;refine tk 6 20 hS ?_;refine tk 7 21 hS ?_;refine tk 8 22 hS ?_;refine tk 9 23 hS ?_;refine tk 10 24 hS ?_;refine tk 11 25 hS ?_;refine OZ ?_;rw [show IntKind.i64.wrap ((o : Int) + (k : Int)) = ((o + k : Nat) : Int) from by rw [IntKind.wrap_i64]; omega];clear hS
   by_cases dT : o + k < bs.length
   ·rw [show decide (((o + k : Nat) : Int) < (bs.length : Int)) = true from by simp; omega]
    obtain ⟨b, off, rfl, _⟩ := rd_some HV.out (by omega)
    have jW : w.cell? ⟨b, off + (o + k), none⟩ = some (.int .u8 (bs.getD (o + k) 0)) := by
     rcases HV.out.2 with ⟨rfl, _⟩ | ⟨b', o', c', he, _, hc⟩
     ·simp at dT
     ·injection he with s7
      injection s7 with s7
      injection s7 with e1 e2
      subst e1 e2;exact hc _ dT
    let Y1 : World → Prop := fun wx => D0 wx P 0 (.slice (some ⟨b, off, none⟩) bs.length c) ∧ D0 wx P 1 (Q1 o) ∧ D0 wx b (off + (o + k)) (.int .u8 (bs.getD (o + k) 0))
    have hS : Y1 wr.drew.drew := ⟨(HP.out.same cJ.out.drew.drew).cell 0, (HP.out.same cJ.out.drew.drew).cell 1, cJ.out.drew.drew.cellOf jW id⟩;have HL : Hid (n = (UJ bs o n k).length) := (ZK _ _ _ _ hk).symm;have cG := hid (HOr.out.same kZ0.drew.drew);have q2 := cG.out.frozen HL.out k;have q3 := cG.out.cell HL.out k bg
    have Fe : IntKind.i64.wrap ((o : Int) + (k : Int)) = (o : Int) + (k : Int) := by rw [IntKind.wrap_i64]; omega
    have fG : 0 ≤ (o : Int) + (k : Int) := by omega
    have pQ : (o : Int) + (k : Int) < (bs.length : Int) := by omega
    have Af : ((o : Int) + (k : Int)).toNat = o + k := by omega
    go_wp2_with fail
    refine O0 Y1 15 16 ?_;refine tk 0 26 hS ?_;refine tk 1 27 hS ?_;refine tk 2 28 hS ?_;refine tk 3 29 hS ?_;refine tk 4 30 hS ?_;refine tk 5 31 hS ?_;refine tk 6 32 hS ?_;refine tk 7 33 hS ?_;refine tk 8 34 hS ?_;refine tk 9 35 hS ?_;refine tk 10 36 hS ?_;refine tk 11 37 hS ?_;refine tkV 12 38 (.pointer (some ⟨b, off + (o + k), none⟩)) hS ?_;refine tk 13 39 hS ?_;refine tk 14 40 hS ?_;refine o1Q 15 (fun K hK => ?_);go_simp;refine hK.out _ _ (fun h => absurd rfl h) ?_;clear hK K;refine OZ ?_
    try simp only [Sp]
    have h := HOr.out.stored HL.out k (bs.getD (o + k) 0);rw [X9 _ _ _ _ bg] at h;have cI : Hid (Own 0 5 .u8 (wr.setCell ⟨w.heap.size, k, none⟩ (.int .u8 (bs.getD (o + k) 0))).drew.drew (.slice (some ⟨w.heap.size, 0, none⟩) n n) (UJ bs o n (k + 1))) := h.same kZ0.drew.drew;have bo : Hid (Same w (wr.setCell ⟨w.heap.size, k, none⟩ (.int .u8 (bs.getD (o + k) 0))).drew.drew) := (cJ.out.setCell (.inl (Nat.le_refl _)) _).drew.drew;clear h hS q2 q3 jW cG HL;go_wp2;go_roundw
    case rel => exact ⟨k + 1, by omega, by go_num, by simpa [dT, List.getD, Hid] using cI, by simpa [dT, List.getD, Hid] using bo⟩
    case measure => simp [intOf]; omega
   ·rw [show decide (((o + k : Nat) : Int) < (bs.length : Int)) = false from by simp; omega]
    go_wp2;go_roundw
    case rel => exact ⟨k + 1, by omega, by go_num, by rw [← jbL _ _ _ _ bg (by omega)]; exact HOr.out.same kZ0.drew, cJ.out.drew⟩
    case measure => simp [intOf]; omega
  ·obtain rfl : k = n := by omega
   have hb := HP.out.same cJ.out;have d0 := hb.cell 0;have d1 := hb.cell 1;have f1 := hb.frozen 1;simp only [List.getElem?_cons_zero, List.getElem?_cons_succ] at d0 d1;go_wp2;go_ret;have hO := HOr.out;rw [jcM] at hO;have hz := cJ.out.size;have dJ := hb.stored 1 (Q1 ((o : Int) + (k : Int)));refine ⟨w.heap.size, rfl, Nat.le_refl _, hO.kept (Kept.setCell (R := fun b => b = P) kZ0 (.inr rfl) _) (fun b iu e => ?_), ?_, ?_⟩
   ·have : w.heap.size = b := by simpa [Value.ownBlock] using iu
    omega
   ·rw [Int.natCast_add]
    exact dJ
   ·exact Kept.setCell (R := fun b => b = P) (cJ.out.mono (fun _ _ e => absurd e id)) (.inr rfl) _
theorem YS (P : Nat) (v : Value) (bs : List Int) (o n : Nat) (w : World) (hB : IsB bs) (hn : n ≤ 1048576) (ho : o ≤ 1099511627776) (hl : bs.length ≤ 1099511627776) (hp : Blk w P 75 [v, Q1 o]) (hv : Rd .u8 w v bs) :
  Calls Tryz.prog 41 #[Q2 P 0, Q1 n] w fun e w' => e = .returned (Q1 (Ps (takeB bs o n))) ∧ Blk w' P 75 [v, Q1 ((o + n : Nat) : Int)] ∧ Kept (fun b => b = P) w w' := by
 have h1 := WX P v bs o n w hn ho hl hp hv;have Mh := jbK hB o n;have zG := Q0 bs o n
 go_enter Tryz.func41, Tryz.ntmps41
 go_wp2_with fail
 refine h1.mono ?_;rintro e w1 ⟨g, rfl, hg, dL, aY, ah⟩;have bQ : Hid (Blk w1 P 75 [v, Q1 ((o + n : Nat) : Int)]) := aY;have aN : Hid (Kept (fun b => b = P) w w1) := ah;have dS : Hid (Own 0 5 .u8 w1 (Q3 g n n) (takeB bs o n)) := dL;clear dL aY ah h1
 go_wp2_with fail
 refine (VD _ (takeB bs o n) w1 Mh (by rw [zG]; omega) dS.out.rd).mono ?_;rintro e w2 ⟨rfl, aj⟩;go_wp2;go_ret;exact ⟨rfl, bQ.out.same aj, aN.out.trans (aj.mono (fun _ _ e => absurd e id))⟩
theorem Ya (bs : List Int) (o n : Nat) : takeB bs o n = QL (bs.drop o) n := by
 unfold takeB QL;apply List.ext_getElem
 ·simp; omega
 ·intro j h1 h2
  simp only [List.length_map, List.length_range] at h1;rw [List.getElem_map, List.getElem_range]
  by_cases h : j < (bs.drop o).length
  ·rw [List.getElem_append_left (by rw [List.length_take]; omega), List.getElem_take, List.getElem_drop]
   simp only [List.length_drop] at h;simp [List.getD, List.getElem?_eq_getElem (show o + j < bs.length by omega)]
  ·rw [List.getElem_append_right (by rw [List.length_take]; omega), List.getElem_replicate]
   simp only [List.length_drop] at h;exact Vt bs (o + j) (by omega)
theorem Rd.old {k : IntKind} {w wy : World} {v : Value} {bs : List Int} (h : Rd k w v bs) (hk : Kept (fun b => w.heap.size ≤ b) w wy) : Rd k wy v bs := by
 refine ⟨h.1, ?_⟩
 rcases h.2 with h2 | ⟨b, off, c, e, h3, hx⟩
 ·exact .inl h2
 ·refine .inr ⟨b, off, c, e, h3, fun i hi => hk.cellOf (hx i hi) ?_⟩
  have h5 := World.block_lt_of_cell? w _ (hx i hi);simp only at h5 ⊢;omega
structure RS (wx : World) (B0 P : Nat) (v : Value) (bs rs : List Int) (cu : Nat) : Prop where
 at_ : ∃ o : Nat, o ≤ cu ∧ rs = bs.drop o ∧ Blk wx P 75 [v, Q1 (o : Int)]
 rd : ∀ wy, Kept (fun b => B0 ≤ b) wx wy → Rd .u8 wy v bs
 le : B0 ≤ P
theorem RS.keep {F : Nat → Prop} {wx wy : World} {B0 P : Nat} {v : Value} {bs rs : List Int} {cu : Nat} (h : RS wx B0 P v bs rs cu) (hk : Kept F wx wy) (hP : ¬ F P) (hF : ∀ b, b < wx.heap.size → F b → B0 ≤ b) : RS wy B0 P v bs rs cu := by
 obtain ⟨⟨o, h1, h2, h3⟩, h4, h5⟩ := h;exact ⟨⟨o, h1, h2, h3.kept hk hP⟩, fun wz hz => h4 wz ((hk.mono hF).trans hz), h5⟩
theorem RS.same {wx wy : World} {B0 P : Nat} {v : Value} {bs rs : List Int} {cu : Nat} (h : RS wx B0 P v bs rs cu) (hk : Same wx wy) : RS wy B0 P v bs rs cu := h.keep hk id (fun _ _ e => e.elim)
theorem RS.lt {wx : World} {B0 P : Nat} {v : Value} {bs rs : List Int} {cu : Nat} (h : RS wx B0 P v bs rs cu) : P < wx.heap.size := by
 obtain ⟨⟨o, h1, h2, h3⟩, h4, h5⟩ := h;exact h3.lt
theorem RS.isB {wx : World} {B0 P : Nat} {v : Value} {bs rs : List Int} {cu : Nat} (h : RS wx B0 P v bs rs cu) (hB : IsB bs) : IsB rs := by
 obtain ⟨⟨o, h1, h2, h3⟩, h4, h5⟩ := h;rw [h2];exact fun y hy => hB y (List.mem_of_mem_drop hy)
theorem RS.on {wx wy : World} {B0 P : Nat} {v : Value} {bs : List Int} {cu o n : Nat} (h4 : ∀ wy, Kept (fun b => B0 ≤ b) wx wy → Rd .u8 wy v bs) (h5 : B0 ≤ P) (hb : Blk wy P 75 [v, Q1 ((o + n : Nat) : Int)]) (ho : o ≤ cu) (hk : Kept (fun b => b = P) wx wy) : RS wy B0 P v bs ((bs.drop o).drop n) (cu + n) :=
 ⟨⟨o + n, by omega, by rw [List.drop_drop], hb⟩, fun wz hz => h4 wz ((hk.mono (fun b _ e => by omega)).trans hz), h5⟩
theorem Qb {w : World} {B0 P : Nat} {v : Value} {bs rs : List Int} {cu : Nat} (n : Nat) (hB : IsB bs) (hn : n ≤ 8) (hm : cu ≤ 1000000) (hl : bs.length ≤ 1099511627776) (h : RS w B0 P v bs rs cu) :
  Calls Tryz.prog 41 #[Q2 P 0, Q1 n] w fun e w' => e = .returned (Q1 (nS rs n)) ∧ RS w' B0 P v bs (rs.drop n) (cu + n) ∧ Kept (fun b => b = P) w w' := by
 obtain ⟨⟨o, h1, rfl, h3⟩, h4, h5⟩ := h;refine (YS P v bs o n w hB (by omega) (by omega) hl h3 (h4 w kZ0)).mono ?_;rintro e w' ⟨rfl, hb, hk⟩;exact ⟨by rw [Ya]; rfl, RS.on h4 h5 hb h1 hk, hk⟩
theorem Yb {w : World} {B0 P : Nat} {v : Value} {bs rs : List Int} {cu : Nat} (n : Nat) (hn : n ≤ 65536) (hm : cu ≤ 1000000) (hl : bs.length ≤ 1099511627776) (h : RS w B0 P v bs rs cu) :
  Calls Tryz.prog 43 #[Q2 P 0, Q1 n] w fun e w' => ∃ g, e = .returned (Q3 g n n) ∧ w.heap.size ≤ g ∧ Own 0 5 .u8 w' (Q3 g n n) (QL rs n) ∧ RS w' B0 P v bs (rs.drop n) (cu + n) ∧ Kept (fun b => b = P) w w' := by
 obtain ⟨⟨o, h1, rfl, h3⟩, h4, h5⟩ := h;refine (WX P v bs o n w (by omega) (by omega) hl h3 (h4 w kZ0)).mono ?_;rintro e w' ⟨g, rfl, hg, ho, hb, hk⟩;rw [Ya] at ho;exact ⟨g, rfl, hg, ho, RS.on h4 h5 hb h1 hk, hk⟩
def nlB : BS := ⟨5, none, 0, []⟩
def nlF (e : TypeId) : FR := ⟨e, none, 0, 0, []⟩
def Pj (k t p : Int) : StLogRecord := ⟨k, t, p, 0, 0, ⟨false, nlB⟩, ⟨false, nlB⟩, 0, 0, nlF 79, nlF 81, nlB⟩
theorem Qk (w : World) : Rd .u8 w nlB.v nlB.bs := (Own.nil 0 5 .u8 w).rd
theorem Ra (m : Nat) (e : TypeId) (w : World) : RdF m w (nlF e) := FR.own_rd (RH m e w)
def tyV (y : StLogRecord) : Value :=
 if y.kind = 1 then .iface 104 (.agg #[Q1 y.txn, Q1 y.prev, Q1 y.page, Q1 y.slot, .bool y.before.used, y.before.data.v, .bool y.after.used, y.after.data.v])
 else if y.kind = 2 then .iface 106 (.agg #[Q1 y.txn, Q1 y.prev, Q1 y.page, Q1 y.slot, .bool y.after.used, y.after.data.v, Q1 y.uN])
 else if y.kind = 3 then .iface 108 (.agg #[Q1 y.txn, Q1 y.prev])
 else if y.kind = 4 then .iface 109 (.agg #[Q1 y.txn, Q1 y.prev])
 else if y.kind = 5 then .iface 110 (.agg #[Q1 y.txn, Q1 y.prev])
 else if y.kind = 6 then .iface 111 (.agg #[Q1 0, Q1 0])
 else if y.kind = 7 then .iface 113 (.agg #[Q1 0, Q1 0, Q1 y.nT, y.txns.v, y.dirty.v])
 else if y.kind = 8 then .iface 115 (.agg #[Q1 0, Q1 0, Q1 y.page, y.image.v])
 else .nilIface
def Typed (y : StLogRecord) : Prop := (∃ (t p g s : Int) (q1 q2 : StPageRecord), y = { Pj 1 t p with page := g, slot := s, before := q1, after := q2 }) ∨ (∃ (t p g s u : Int) (q : StPageRecord), y = { Pj 2 t p with page := g, slot := s, after := q, uN := u }) ∨ (∃ (t p : Int), y = Pj 3 t p) ∨ (∃ (t p : Int), y = Pj 4 t p) ∨ (∃ (t p : Int), y = Pj 5 t p) ∨ (y = Pj 6 0 0) ∨ (∃ (u : Int) (tx dy : FR), y = { Pj 7 0 0 with nT := u, txns := tx, dirty := dy }) ∨ (∃ (g : Int) (im : BS), y = { Pj 8 0 0 with page := g, image := im }) ∨ (∃ k t p : Int, ¬ (1 ≤ k ∧ k ≤ 8) ∧ y = Pj k t p)
theorem Typed.k1 (t p g s : Int) (q1 q2 : StPageRecord) : Typed ({ Pj 1 t p with page := g, slot := s, before := q1, after := q2 }) := .inl ⟨t, p, g, s, q1, q2, rfl⟩
theorem Typed.k2 (t p g s u : Int) (q : StPageRecord) : Typed ({ Pj 2 t p with page := g, slot := s, after := q, uN := u }) := .inr (.inl ⟨t, p, g, s, u, q, rfl⟩)
theorem Typed.k3 (t p : Int) : Typed (Pj 3 t p) := .inr (.inr (.inl ⟨t, p, rfl⟩))
theorem Typed.k4 (t p : Int) : Typed (Pj 4 t p) := .inr (.inr (.inr (.inl ⟨t, p, rfl⟩)))
theorem Typed.k5 (t p : Int) : Typed (Pj 5 t p) := .inr (.inr (.inr (.inr (.inl ⟨t, p, rfl⟩))))
theorem Typed.k6  : Typed (Pj 6 0 0) := .inr (.inr (.inr (.inr (.inr (.inl rfl)))))
theorem Typed.k7 (u : Int) (tx dy : FR) : Typed ({ Pj 7 0 0 with nT := u, txns := tx, dirty := dy }) := .inr (.inr (.inr (.inr (.inr (.inr (.inl ⟨u, tx, dy, rfl⟩))))))
theorem Typed.k8 (g : Int) (im : BS) : Typed ({ Pj 8 0 0 with page := g, image := im }) := .inr (.inr (.inr (.inr (.inr (.inr (.inr (.inl ⟨g, im, rfl⟩)))))))
theorem Typed.k0 (k t p : Int) (h : ¬ (1 ≤ k ∧ k ≤ 8)) : Typed (Pj k t p) := .inr (.inr (.inr (.inr (.inr (.inr (.inr (.inr ⟨k, t, p, h, rfl⟩)))))))
def jff (bs : List Int) (w : World) (e : Ending) (w' : World) : Prop := ∃ y : StLogRecord, e = .returned (tyV y) ∧ y.dat = Sy bs ∧ Typed y ∧ StLogRecord.rd w' y ∧ Same w w'
theorem ZL (v : Value) (bs : List Int) (w : World) (hB : IsB bs) (hl : bs.length ≤ 1099511627776) (hv : Rd .u8 w v bs) : Calls Tryz.prog 28 #[v] w fun e w' => jff bs w e w' := by
 obtain ⟨va, vc, rfl⟩ := hv.form;have HV := hid (fun wy (h : Kept (fun b => w.heap.size ≤ b) w wy) => hv.old h);have aP : Hid (Same w (w.alloc (.cells #[.slice va bs.length vc] 118))) := kZ0.alloc _;have oA : Hid (Blk (w.alloc (.cells #[.slice va bs.length vc] 118)) w.heap.size 118 [.slice va bs.length vc]) := Blk.newL w [.slice va bs.length vc] 118
 have b8 : (w.alloc (.cells #[.slice va bs.length vc] 118)).heap.size = w.heap.size + 1 := by simp
 clear hv
 go_enter Tryz.func28, Tryz.ntmps28
 go_upto_region 2 with fail
 generalize w.alloc (.cells #[.slice va bs.length vc] 118) = w1 at aP oA b8 ⊢;generalize Value.slice va bs.length vc = v at HV oA ⊢;have dU : Hid (RI w1 w.heap.size w.heap.size bs) := ⟨⟨v, oA.out, fun wy h => HV.out wy ((aP.out.mono (fun _ _ e => e.elim)).trans h)⟩, Nat.le_refl _⟩;have aN := aP
 have we : w.heap.size ≤ w1.heap.size := by omega
 clear oA HV aP b8;obtain ⟨P, hP⟩ : ∃ P, w.heap.size = P := ⟨_, rfl⟩;rw [hP] at dU we ⊢;have kV := hid hP;clear hP
 go_wp2_with fail
 refine (PZ 1 (by omega) (hB) (hl) dU.out).mono ?_;rintro e w2 ⟨rfl, aS, aj⟩;obtain ⟨k, hk⟩ : ∃ x, nI (bs) 1 = x := ⟨_, rfl⟩;rw [hk];have gi := hid aS;have aO := hid (aN.out.next aj (fun i hi e => by have := kV.out; omega))
 have Bn : P ≤ w2.heap.size := by have := aj.size; omega
 clear aS aj dU aN we
 go_wp2_with fail
 refine (PZ 4 (by omega) (hB.dropI _) (by simp only [List.length_drop]; omega) gi.out).mono ?_;rintro e w3 ⟨rfl, aS, aj⟩;obtain ⟨t, ht⟩ : ∃ x, nI (bs.drop 1) 4 = x := ⟨_, rfl⟩;rw [ht];have s8 := hid aS;have bo := hid (aO.out.next aj (fun i hi e => by have := kV.out; omega))
 have AU : P ≤ w3.heap.size := by have := aj.size; omega
 clear aS aj gi aO Bn
 go_wp2_with fail
 refine (PZ 8 (by omega) ((hB.dropI _).dropI _) (by simp only [List.length_drop]; omega) s8.out).mono ?_;rintro e w4 ⟨rfl, aS, aj⟩;obtain ⟨p, hp⟩ : ∃ x, nI ((bs.drop 1).drop 4) 8 = x := ⟨_, rfl⟩;rw [hp];have gC := hid aS;have bp := hid (bo.out.next aj (fun i hi e => by have := kV.out; omega))
 have Fc : P ≤ w4.heap.size := by have := aj.size; omega
 clear aS aj s8 bo AU
 have lL := (show Hid (Sy bs = Pt nI (fun rs n => rs.take n) k (if k ≤ 5 then t else 0) (if k ≤ 5 then p else 0) (bs.drop 13)) from by
  unfold Hid Sy;rw [hk, ht];simp only [List.drop_drop] at hp
  rw [hp])
 have tL := (show Hid (RI w4 P P (bs.drop 13)) from by have h := gC.out; simp only [List.drop_drop] at h; exact h);obtain ⟨r, hr⟩ : ∃ r, bs.drop 13 = r := ⟨_, rfl⟩;have lT : IsB r := hr ▸ hB.dropI 13
 have nA : r.length ≤ 1099511627776 := by rw [← hr, List.length_drop]; omega
 rw [hr] at tL lL;have o9 : Hid (Blk (w4.alloc (.cells #[Q1 t, Q1 p] 100)) w4.heap.size 100 [Q1 t, Q1 p]) := Blk.newL w4 [Q1 t, Q1 p] 100;have jb : Hid (RI (w4.alloc (.cells #[Q1 t, Q1 p] 100)) P P r) := tL.out.same (kZ0.alloc _);have cd : Hid (Same w (w4.alloc (.cells #[Q1 t, Q1 p] 100))) := bp.out.alloc _;have EP := gC.out.lt
 have sO : P ≤ (w4.alloc (.cells #[Q1 t, Q1 p] 100)).heap.size := by simp; omega
 clear gC tL bp hr hk ht hp
 go_upto_region 4 with fail
 generalize w4.alloc (.cells #[Q1 t, Q1 p] 100) = w5 at o9 jb cd sO ⊢;obtain ⟨X, hX⟩ : ∃ X, w4.heap.size = X := ⟨_, rfl⟩;rw [hX] at o9 EP Fc ⊢;clear hX
 have Oe : P ≠ X := by omega
 have se := o9.out.lt
 by_cases k1 : k = 1
 ·subst k1
  focus
   go_upto_region 6 with fail
   have rN := hid (cd.out.next ((Kept.refl (fun _ => False) w5).drew) (fun _ _ e => e.elim));have nM := hid (o9.out.same kZ0.drew);have rV := hid (jb.out.same kZ0.drew);have wj : P ≤ w5.drew.heap.size := Nat.le_trans sO ((Kept.refl (fun _ => False) w5).drew).size
   let Y1 : World → Prop := fun wx => D0 wx X 0 (Q1 t) ∧ D0 wx X 1 (Q1 p)
   have hS : Y1 (w5.drew) := nM.out.all2;refine O0 Y1 99 10 ?_;refine tk 0 19 hS ?_;refine tk 1 20 hS ?_;refine tk 3 22 hS ?_;refine tk 5 24 hS ?_;refine o1Q 2 (fun Kc hK => ?_);go_simp;refine (ZI lT nA rV.out).mono ?_;rintro e w6 ⟨rfl, aS, aj⟩;have m9 := hid (nM.out.kept aj (by omega));have jD := hid aS;have ip := hid (rN.out.next aj (fun i hi e => by have := kV.out; omega))
   have m6 : P ≤ w6.heap.size := by have := aj.size; omega
   obtain ⟨g, hg⟩ : ∃ x, nI r 2 = x := ⟨_, rfl⟩;obtain ⟨s, hs⟩ : ∃ x, nI (r.drop 2) 2 = x := ⟨_, rfl⟩;rw [hg, hs];have HG := hid hg;have kj := hid hs;clear hg hs;clear aS aj;have hS : Y1 w6 := m9.out.all2;refine hK.out _ _ (fun _ => hS) ?_;clear hK Kc
   try simp only [Sp]
   refine o1Q 4 (fun Kc hK => ?_);go_simp;refine (YR (lT.dropI 4) (by simp only [List.length_drop]; omega) (by omega) jD.out).mono ?_;rintro e w7 ⟨⟨bu, be, ba, bc, bb⟩, rfl, nR, gl, aS, aj⟩;have ng := hid (m9.out.kept aj (by omega));have lA := hid aS;have j9 := hid (ip.out.next aj (fun i hi e => by have := kV.out; omega))
   have nw : P ≤ w7.heap.size := by have := aj.size; omega
   have s5 := hid nR;have nj := hid gl;dsimp only [StPageRecord.val, BS.v];clear nR gl;clear aS aj;have hS : Y1 w7 := ng.out.all2;refine hK.out _ _ (fun _ => hS) ?_;clear hK Kc
   try simp only [Sp]
   refine o1Q 6 (fun Kc hK => ?_);go_simp;refine (YR (Vs (lT.dropI 4)).2.1 (by have := (Vs (lT.dropI 4)).2.2.2; simp only [List.length_drop] at this; omega) (by omega) lA.out).mono ?_;rintro e w8 ⟨⟨au, ae, aa, ac, ab⟩, rfl, nR, gl, aS, aj⟩;have sT := hid (ng.out.kept aj (by omega));have wD := hid aS;have jo := hid (j9.out.next aj (fun i hi e => by have := kV.out; omega))
   have rv : P ≤ w8.heap.size := by have := aj.size; omega
   have sa := hid nR;have LX := hid gl;have Dw := hid (nj.out.keep aj (fun b _ e => by omega));dsimp only [StPageRecord.val, BS.v];clear nR gl;clear aS aj;have hS : Y1 w8 := sT.out.all2;refine hK.out _ _ (fun _ => hS) ?_;clear hK Kc
   try simp only [Sp]
   refine o1Q 7 (fun Kc hK => ?_);go_simp;refine hK.out _ _ (fun _ => hS) ?_;clear hK Kc
   try simp only [Sp]
   refine o1Q 8 (fun Kc hK => ?_);go_simp;refine hK.out _ _ (fun _ => hS) ?_;clear hK Kc
   try simp only [Sp]
   refine o1Q 9 (fun Kc hK => ?_);go_simp;refine hK.out _ _ (fun _ => hS) ?_;clear hK Kc
   try simp only [Sp]
   refine OZ ?_
   try simp only [Sp]
   have HT := (show Hid (StLogRecord.dat { Pj 1 t p with page := g, slot := s, before := ⟨bu, be, ba, bc, bb⟩, after := ⟨au, ae, aa, ac, ab⟩ } = Sy bs) from by
    unfold Hid;rw [lL.out];unfold Pt;rw [if_pos rfl, HG.out, kj.out];have e1 : StPageRecord.dat ⟨bu, be, ba, bc, bb⟩ = (Qr nI (fun rs n => rs.take n) (r.drop 4)).1 := s5.out;have e2 : StPageRecord.dat ⟨au, ae, aa, ac, ab⟩ = (Qr nI (fun rs n => rs.take n) (Qr nI (fun rs n => rs.take n) (r.drop 4)).2).1 := sa.out;rw [← e1, ← e2]
    rfl)
   go_wp2;go_ret;exact ⟨{ Pj 1 t p with page := g, slot := s, before := ⟨bu, be, ba, bc, bb⟩, after := ⟨au, ae, aa, ac, ab⟩ }, rfl, HT.out, Typed.k1 _ _ _ _ _ _, ⟨Dw.out.rd, LX.out.rd, Ra 4 _ _, Ra 2 _ _, Qk _⟩, jo.out⟩
 have e1 : (k == 1) = false := by simp [k1]
 by_cases k2 : k = 2
 ·subst k2
  focus
   go_upto_region 8 with fail
   have rN := hid (cd.out.next ((Kept.refl (fun _ => False) w5).drew) (fun _ _ e => e.elim));have nM := hid (o9.out.same kZ0.drew);have rV := hid (jb.out.same kZ0.drew);have wj : P ≤ w5.drew.heap.size := Nat.le_trans sO ((Kept.refl (fun _ => False) w5).drew).size
   let Y2 : World → Prop := fun wx => D0 wx X 0 (Q1 t) ∧ D0 wx X 1 (Q1 p)
   have hS : Y2 (w5.drew) := nM.out.all2;refine O0 Y2 99 10 ?_;refine tk 0 30 hS ?_;refine tk 1 31 hS ?_;refine tk 3 33 hS ?_;refine tk 5 35 hS ?_;refine o1Q 2 (fun Kc hK => ?_);go_simp;refine (ZI lT nA rV.out).mono ?_;rintro e w6 ⟨rfl, aS, aj⟩;have m9 := hid (nM.out.kept aj (by omega));have jD := hid aS;have ip := hid (rN.out.next aj (fun i hi e => by have := kV.out; omega))
   have m6 : P ≤ w6.heap.size := by have := aj.size; omega
   obtain ⟨g, hg⟩ : ∃ x, nI r 2 = x := ⟨_, rfl⟩;obtain ⟨s, hs⟩ : ∃ x, nI (r.drop 2) 2 = x := ⟨_, rfl⟩;rw [hg, hs];have HG := hid hg;have kj := hid hs;clear hg hs;clear aS aj;have hS : Y2 w6 := m9.out.all2;refine hK.out _ _ (fun _ => hS) ?_;clear hK Kc
   try simp only [Sp]
   refine o1Q 4 (fun Kc hK => ?_);go_simp;refine (YR (lT.dropI 4) (by simp only [List.length_drop]; omega) (by omega) jD.out).mono ?_;rintro e w7 ⟨⟨bu, be, ba, bc, bb⟩, rfl, nR, gl, aS, aj⟩;have ng := hid (m9.out.kept aj (by omega));have lA := hid aS;have j9 := hid (ip.out.next aj (fun i hi e => by have := kV.out; omega))
   have nw : P ≤ w7.heap.size := by have := aj.size; omega
   have s5 := hid nR;have nj := hid gl;dsimp only [StPageRecord.val, BS.v];clear nR gl;clear aS aj;have hS : Y2 w7 := ng.out.all2;refine hK.out _ _ (fun _ => hS) ?_;clear hK Kc
   try simp only [Sp]
   refine o1Q 6 (fun Kc hK => ?_);go_simp;refine (PZ 8 (by omega) (Vs (lT.dropI 4)).2.1 (by have := (Vs (lT.dropI 4)).2.2.2; simp only [List.length_drop] at this; omega) lA.out).mono ?_;rintro e w8 ⟨rfl, aS, aj⟩;have sT := hid (ng.out.kept aj (by omega));have wD := hid aS;have jo := hid (j9.out.next aj (fun i hi e => by have := kV.out; omega))
   have rv : P ≤ w8.heap.size := by have := aj.size; omega
   obtain ⟨u, hu⟩ : ∃ x, nI (slI (r.drop 4)).2 8 = x := ⟨_, rfl⟩;rw [hu];have HU := hid hu;have Dw := hid (nj.out.keep aj (fun b _ e => by omega));clear hu;clear aS aj;have hS : Y2 w8 := sT.out.all2;refine hK.out _ _ (fun _ => hS) ?_;clear hK Kc
   try simp only [Sp]
   refine o1Q 7 (fun Kc hK => ?_);go_simp;refine hK.out _ _ (fun _ => hS) ?_;clear hK Kc
   try simp only [Sp]
   refine o1Q 8 (fun Kc hK => ?_);go_simp;refine hK.out _ _ (fun _ => hS) ?_;clear hK Kc
   try simp only [Sp]
   refine o1Q 9 (fun Kc hK => ?_);go_simp;refine hK.out _ _ (fun _ => hS) ?_;clear hK Kc
   try simp only [Sp]
   refine OZ ?_
   try simp only [Sp]
   have HT := (show Hid (StLogRecord.dat { Pj 2 t p with page := g, slot := s, after := ⟨bu, be, ba, bc, bb⟩, uN := u } = Sy bs) from by
    unfold Hid;rw [lL.out];unfold Pt;rw [if_neg (by decide), if_pos rfl, HG.out, kj.out];have e1 : StPageRecord.dat ⟨bu, be, ba, bc, bb⟩ = (Qr nI (fun rs n => rs.take n) (r.drop 4)).1 := s5.out;have e2 : nI (Qr nI (fun rs n => rs.take n) (r.drop 4)).2 8 = u := HU.out;rw [← e1, e2]
    rfl)
   go_wp2;go_ret;exact ⟨{ Pj 2 t p with page := g, slot := s, after := ⟨bu, be, ba, bc, bb⟩, uN := u }, rfl, HT.out, Typed.k2 _ _ _ _ _ _, ⟨Qk _, Dw.out.rd, Ra 4 _ _, Ra 2 _ _, Qk _⟩, jo.out⟩
 have e2 : (k == 2) = false := by simp [k2]
 by_cases k3 : k = 3
 ·subst k3
  focus
   obtain ⟨c0, c1⟩ := o9.out.all2
   have HT := (show Hid (StLogRecord.dat (Pj 3 t p) = Sy bs) from by
    unfold Hid;rw [lL.out];unfold Pt
    rfl)
   go_wp2;go_ret;exact ⟨(Pj 3 t p), rfl, HT.out, Typed.k3 _ _, ⟨Qk _, Qk _, Ra 4 _ _, Ra 2 _ _, Qk _⟩, cd.out⟩
 have e3 : (k == 3) = false := by simp [k3]
 by_cases k4 : k = 4
 ·subst k4
  focus
   obtain ⟨c0, c1⟩ := o9.out.all2
   have HT := (show Hid (StLogRecord.dat (Pj 4 t p) = Sy bs) from by
    unfold Hid;rw [lL.out];unfold Pt
    rfl)
   go_wp2;go_ret;exact ⟨(Pj 4 t p), rfl, HT.out, Typed.k4 _ _, ⟨Qk _, Qk _, Ra 4 _ _, Ra 2 _ _, Qk _⟩, cd.out⟩
 have e4 : (k == 4) = false := by simp [k4]
 by_cases k5 : k = 5
 ·subst k5
  focus
   obtain ⟨c0, c1⟩ := o9.out.all2
   have HT := (show Hid (StLogRecord.dat (Pj 5 t p) = Sy bs) from by
    unfold Hid;rw [lL.out];unfold Pt
    rfl)
   go_wp2;go_ret;exact ⟨(Pj 5 t p), rfl, HT.out, Typed.k5 _ _, ⟨Qk _, Qk _, Ra 4 _ _, Ra 2 _ _, Qk _⟩, cd.out⟩
 have e5 : (k == 5) = false := by simp [k5]
 by_cases k6 : k = 6
 ·subst k6
  focus
   obtain ⟨c0, c1⟩ := o9.out.all2
   have HT := (show Hid (StLogRecord.dat (Pj 6 0 0) = Sy bs) from by
    unfold Hid;rw [lL.out];unfold Pt
    rfl)
   go_wp2;go_ret;exact ⟨(Pj 6 0 0), rfl, HT.out, Typed.k6, ⟨Qk _, Qk _, Ra 4 _ _, Ra 2 _ _, Qk _⟩, cd.out⟩
 have e6 : (k == 6) = false := by simp [k6]
 by_cases k7 : k = 7
 ·subst k7
  focus
   go_wp2_with fail
   refine (PZ 4 (by omega) lT nA jb.out).mono ?_;rintro e w6 ⟨rfl, aS, aj⟩;have jD := hid aS;have ip := hid (cd.out.next aj (fun i hi e => by have := kV.out; omega))
   have m6 : P ≤ w6.heap.size := by have := aj.size; omega
   obtain ⟨u, hu⟩ : ∃ x, nI r 4 = x := ⟨_, rfl⟩;rw [hu];have HU := hid hu;clear hu aS aj
   go_wp2_with fail
   refine (jdK (lT.dropI 4) (by simp only [List.length_drop]; omega) (by omega) jD.out).mono ?_;rintro e w7 ⟨ta, tn, tc, rfl, uk, GC, Gk, aS, aj⟩;have lA := hid aS;have j9 := hid (ip.out.next aj (fun i hi e => by have := kV.out; omega))
   have nw : P ≤ w7.heap.size := by have := aj.size; omega
   have uA := hid uk;have Kq := hid GC;have qo := hid Gk;have Ns := jD.out.lt;clear uk GC Gk aS aj
   go_wp2_with fail
   refine (jcJ (((lT.dropI 4).dropI 1).dropI _) (by simp only [List.length_drop]; omega) (by omega) lA.out).mono ?_;rintro e w8 ⟨da, dn, dc, rfl, qz, F3, yJ, aS, aj⟩;have wD := hid aS;have jo := hid (j9.out.next aj (fun i hi e => by have := kV.out; omega))
   have rv : P ≤ w8.heap.size := by have := aj.size; omega
   have uB := hid qz;have oc := hid F3;have Ck := hid (Kq.out.kept aj (fun b hb e => by have := qo.out b ((PD _ _).1 hb); omega));clear qz F3 yJ aS aj
   have HT := (show Hid (StLogRecord.dat { Pj 7 0 0 with nT := u, txns := ⟨79, ta, tn, tc, txL nI ((r.drop 4).drop 1) tn⟩, dirty := ⟨81, da, dn, dc, dyL nI (((((r.drop 4).drop 1).drop (21 * tn)).drop 1)) dn⟩ } = Sy bs) from by
    unfold Hid;rw [lL.out];unfold Pt;rw [if_neg (by decide), if_neg (by decide), if_pos rfl, if_neg (by decide), if_neg (by decide), HU.out, ← uA.out];have e1 := uB.out;simp only [List.drop_drop] at e1 ⊢;simp only [Nat.reduceAdd] at e1 ⊢;rw [← e1];unfold StLogRecord.dat
    rfl)
   go_wp2;go_ret;exact ⟨{ Pj 7 0 0 with nT := u, txns := ⟨79, ta, tn, tc, txL nI ((r.drop 4).drop 1) tn⟩, dirty := ⟨81, da, dn, dc, dyL nI (((((r.drop 4).drop 1).drop (21 * tn)).drop 1)) dn⟩ }, rfl, HT.out, Typed.k7 _ _ _, ⟨Qk _, Qk _, FR.own_rd Ck.out, FR.own_rd oc.out, Qk _⟩, jo.out⟩
 have e7 : (k == 7) = false := by simp [k7]
 by_cases k8 : k = 8
 ·subst k8
  focus
   go_wp2_with fail
   refine (PZ 2 (by omega) lT nA jb.out).mono ?_;rintro e w6 ⟨rfl, aS, aj⟩;have jD := hid aS;have ip := hid (cd.out.next aj (fun i hi e => by have := kV.out; omega))
   have m6 : P ≤ w6.heap.size := by have := aj.size; omega
   obtain ⟨g, hg⟩ : ∃ x, nI r 2 = x := ⟨_, rfl⟩;rw [hg];have HG := hid hg;clear hg aS aj
   go_wp2_with fail
   refine (YP 4096 (by omega) (by simp only [List.length_drop]; omega) jD.out).mono ?_;rintro e w7 ⟨ia, ic, rfl, hv, aS, aj⟩;have lA := hid aS;have j9 := hid (ip.out.next aj (fun i hi e => by have := kV.out; omega))
   have nw : P ≤ w7.heap.size := by have := aj.size; omega
   obtain ⟨im, pS⟩ : ∃ x, (r.drop 2).take (4096 : Int).toNat = x := ⟨_, rfl⟩;rw [pS] at hv ⊢;have K4 := hid pS;have nj := hid hv;clear hv aS aj pS
   have HT := (show Hid (StLogRecord.dat { Pj 8 0 0 with page := g, image := ⟨5, ia, ic, im⟩ } = Sy bs) from by
    unfold Hid;rw [lL.out];unfold Pt;rw [if_neg (by decide), if_neg (by decide), if_neg (by decide), if_pos rfl, if_neg (by decide), if_neg (by decide), HG.out];rw [← K4.out]
    rfl)
   go_wp2;go_ret;exact ⟨{ Pj 8 0 0 with page := g, image := ⟨5, ia, ic, im⟩ }, rfl, HT.out, Typed.k8 _ _, ⟨Qk _, Qk _, Ra 4 _ _, Ra 2 _ _, nj.out _ kZ0⟩, j9.out⟩
 have e8 : (k == 8) = false := by simp [k8]
 have HT := (show Hid (StLogRecord.dat (Pj k (if k ≤ 5 then t else 0) (if k ≤ 5 then p else 0)) = Sy bs) from by
  unfold Hid;rw [lL.out];unfold Pt;rw [if_neg k1, if_neg k2, if_neg k7, if_neg k8]
  rfl)
 have HN := (show Hid (tyV (Pj k (if k ≤ 5 then t else 0) (if k ≤ 5 then p else 0)) = .nilIface) from by
  unfold Hid tyV Pj;dsimp only
  rw [if_neg k1, if_neg k2, if_neg k3, if_neg k4, if_neg k5, if_neg k6, if_neg k7, if_neg k8])
 have JP : Hid (Typed (Pj k (if k ≤ 5 then t else 0) (if k ≤ 5 then p else 0))) := Typed.k0 _ _ _ (by omega);clear k1 k2 k3 k4 k5 k6 k7 k8;go_wp2;go_ret;exact ⟨_, by rw [HN.out]; rfl, HT.out, JP.out, ⟨Qk _, Qk _, Ra 4 _ _, Ra 2 _ _, Qk _⟩, cd.out⟩
end Go.Proofs.YtapdfgkbhaoelaaGreatDoor
