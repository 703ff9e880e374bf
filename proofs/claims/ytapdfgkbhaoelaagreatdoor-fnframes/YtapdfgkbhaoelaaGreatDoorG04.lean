import Derived.Test.YtapdfgkbhaoelaaGreatDoorG03
import Derived.Great.BuildSlice
namespace Go.Proofs.YtapdfgkbhaoelaaGreatDoor
set_option maxRecDepth 100000
set_option maxHeartbeats 16000000
set_option linter.unusedVariables false
set_option linter.unusedSimpArgs false
open Go.RowKit
theorem RN {w : World} {B : Nat} {e : TypeId} {A raw : List Int} (o n c : Nat) (x : Int) (hb : Blk w B e (vals .u8 (cont A raw))) (ho : o = A.length) (hl : o + n ≤ raw.length) (hm : raw.length = 4096) (h0 : 0 ≤ x) (h1 : x ≤ 9223372036854775807) :
  Calls Tryz.prog 49 #[.slice (some ⟨B, o, none⟩) n c, Q1 x] w fun e' w' => e' = .returned (.tuple #[]) ∧ Blk w' B e (vals .u8 (cont (A ++ O5 x n) raw)) ∧ Kept (fun b => b = B) w w' := by
 refine (Qm B o n c e _ x w hb (by rw [O1, Qe _ _ (by omega)]; exact hl) h0 h1 (by omega)).mono ?_;rintro e' w' ⟨rfl, iu, hk⟩;exact ⟨rfl, Blk.more o (O5 x n) iu ho (by rw [OY]; omega), hk⟩
structure Num3 (lsn num bot : Int) (sl : List Int) : Prop where
 a : 0 ≤ lsn ∧ lsn ≤ 9223372036854775807
 b : 0 ≤ num ∧ num ≤ 9223372036854775807
 c : 0 ≤ bot ∧ bot ≤ 9223372036854775807
 d : ∀ x ∈ sl, 0 ≤ x ∧ x ≤ 9223372036854775807
theorem Num3.at {lsn num bot : Int} {sl : List Int} (h : Num3 lsn num bot sl) (k : Nat) : 0 ≤ sl.getD k 0 ∧ sl.getD k 0 ≤ 9223372036854775807 := by
 by_cases hk : k < sl.length
 ·have : sl.getD k 0 = sl[k] := by simp [hk]
  rw [this];exact h.d _ (List.getElem_mem hk)
 ·simp [List.getD, List.getElem?_eq_none (show sl.length ≤ k by omega)]
structure EncS (w wx : World) (B : Nat) (sum : List Int) (lsn num bot : Int) (sl raw A : List Int) : Prop where
 sp : SP wx B sum lsn num bot sl raw
 arr : Blk wx (w.heap.size + 1) 211 (vals .u8 (cont A raw))
 res : Blk wx w.heap.size 211 Tryz.zeroCells211.toList
 same : Same w wx
 sz : w.heap.size + 2 ≤ wx.heap.size
 lt : B < w.heap.size
theorem EncS.next {w wx wy : World} {B : Nat} {sum : List Int} {lsn num bot : Int} {sl raw A A' : List Int} (h : EncS w wx B sum lsn num bot sl raw A) (hk : Kept (fun b => b = w.heap.size + 1) wx wy) (hb : Blk wy (w.heap.size + 1) 211 (vals .u8 (cont A' raw))) : EncS w wy B sum lsn num bot sl raw A' :=
 have bg := h.lt
 ⟨h.sp.kept hk (by omega), hb, h.res.kept hk (by omega), h.same.next hk (fun i hi e => by omega), Nat.le_trans h.sz hk.size, h.lt⟩
theorem EncS.on {w wx wy : World} {B : Nat} {sum : List Int} {lsn num bot : Int} {sl raw A : List Int} (h : EncS w wx B sum lsn num bot sl raw A) (hk : Same wx wy) : EncS w wy B sum lsn num bot sl raw A :=
 ⟨h.sp.same hk, h.arr.same hk, h.res.same hk, h.same.trans hk, Nat.le_trans h.sz hk.size, h.lt⟩
theorem jaw (B : Nat) (sum : List Int) (lsn num bot : Int) (sl raw : List Int) (w : World) (hp : SP w B sum lsn num bot sl raw) (hn : Num3 lsn num bot sl) :
  Calls Tryz.prog 179 #[Q2 B 0] w fun e w' => e = .returned (.agg (vals .u8 (Py sum lsn num bot sl raw)).toArray) ∧ Same w w' := by
 have eT := hp.blk.lt;have fu := hp.l3;have HP : Hid (SP w B sum lsn num bot sl raw) := hp;have HN : Hid (Num3 lsn num bot sl) := hn
 have iZ : Tryz.zeroCells211.toList.length = 4096 := by rw [Array.length_toList]; exact Tryz.zeroCells211_size
 have lc : (vals .u8 raw).length = 4096 := by rw [O1, fu]
 have ol : Hid ((w.alloc (.cells Tryz.zeroCells211 211)).rangeAt B 71 (vals .u8 raw)) := (hp.same (kZ0.alloc _)).rawRange;have HI : Hid ((Tryz.prog.info? 211).map (·.size) = some (vals .u8 raw).length) := (by rw [lc]; exact Te : (Tryz.prog.info? 211).map (·.size) = some (vals .u8 raw).length);have bL : Hid ((Tryz.prog.info? 211).map (·.size) = some (vals .u8 raw).toArray.size) := (by rw [List.size_toArray]; exact HI.out : (Tryz.prog.info? 211).map (·.size) = some (vals .u8 raw).toArray.size);have iQ : Hid ((vals .u8 raw).toArray.all (·.oneCell') = true) := all_oneCell_toArray Qy;obtain ⟨cs, ey⟩ : ∃ cs : List Value, vals .u8 raw = cs := ⟨_, rfl⟩;have rf : Hid (vals .u8 raw = cs) := ey
 have HT := (show Hid (((w.alloc (.cells Tryz.zeroCells211 211)).alloc (.cells Tryz.zeroCells211 211)).there (w.heap.size + 1) 0 (vals .u8 raw).toArray.size) from by
  have h := Blk.new (w.alloc (.cells Tryz.zeroCells211 211)) Tryz.zeroCells211 211;rw [World.size_alloc] at h
  exact h.there 0 _ (by rw [List.size_toArray, lc, iZ]; decide))
 rw [ey] at ol HI bL iQ HT;clear ey hp hn lc
 go_enter Tryz.func179, Tryz.ntmps179
 go_wp2_with (first | (refine wpList_load_mid rfl 211 _ rfl B 71 rfl cs _ ol.out Tryz.underlying211 rfl HI.out ?_) | (refine wpList_store_mid rfl 211 _ _ rfl (w.heap.size + 1) 0 cs.toArray rfl rfl HT.out bL.out iQ.out ?_))
 obtain ⟨w1, fG⟩ : ∃ w1, ((w.alloc (.cells Tryz.zeroCells211 211)).alloc (.cells Tryz.zeroCells211 211)).setCells (w.heap.size + 1) 0 cs = w1 := ⟨_, rfl⟩
 have nK := (show Hid (EncS w w1 B sum lsn num bot sl raw ([])) from by
  rw [← fG, ← rf.out];have ha := Blk.new (w.alloc (.cells Tryz.zeroCells211 211)) Tryz.zeroCells211 211;rw [World.size_alloc] at ha;have hb := ha.setCells (vals .u8 raw) 0 (by rw [iZ, O1, fu]; decide);rw [lay_all _ _ (by rw [iZ, O1, fu])] at hb;have aW : Same w ((w.alloc (.cells Tryz.zeroCells211 211)).alloc (.cells Tryz.zeroCells211 211)) := (kZ0.alloc _).alloc _;have ah := Kept.setCells (R := fun b => b = w.heap.size + 1) (a := (w.alloc (.cells Tryz.zeroCells211 211)).alloc (.cells Tryz.zeroCells211 211)) (B := w.heap.size + 1) (.inr rfl) (vals .u8 raw) 0 kZ0;refine ⟨(HP.out.same aW).kept ah (by omega), by rw [Zn]; exact hb, (((Blk.new w _ _).alloc _).kept ah (by omega)), aW.next ah (fun i hi e => by omega), ?_, eT⟩;have := ah.size;simp at this
  omega)
 rw [fG];clear fG ol HT iQ HI bL rf iZ
 have hS : (fun _ : World => True) w1.drew := by trivial
 refine O0 (fun _ : World => True) 99 6 ?_;refine tk 0 11 hS ?_;refine tk 1 12 hS ?_;refine tk 2 13 hS ?_;refine tk 3 14 hS ?_;refine tk 4 15 hS ?_;refine o1Q 5 (fun K hK => ?_);have hE := nK.out.on kZ0.drew
 have mX : (vals .u8 sum).length = 4 := by rw [O1, hE.sp.l1]
 refine SV (by rfl) _ _ 22 (by rfl) Tryz.underlying22 byte_size (vals .u8 sum) hE.arr (by rfl) (by rfl) (by rw [mX]; decide) (fun j u hu => ?_) (by rw [mX, O1, Qe _ _ (by simp), fu]; decide) Qy ?_
 ·have hj : j < 4 := by have := (List.getElem?_eq_some_iff.1 hu).1; rwa [mX] at this
  rw [addr_add, Nat.zero_add, hE.sp.sumAt j hj, ← hu, Qp _ _ _ (by rw [hE.sp.l1]; exact hj)]
 have dJ := hE.arr.setCells (vals .u8 sum) 0 (by rw [mX, O1, Qe _ _ (by simp), fu]; decide);have eg := Blk.more 0 sum dJ rfl (by rw [hE.sp.l1, fu]; decide);have aj := Kept.setCells (R := fun b => b = w.heap.size + 1) (a := w1.drew) (B := w.heap.size + 1) (.inr rfl) (vals .u8 sum) 0 kZ0;obtain ⟨w2, pQ⟩ : ∃ w2, w1.drew.setCells (w.heap.size + 1) 0 (vals .u8 sum) = w2 := ⟨_, rfl⟩;rw [pQ] at eg aj ⊢;have uo : Hid (EncS w w2 B sum lsn num bot sl raw ([] ++ sum)) := hE.next aj eg;clear pQ;clear dJ eg aj hE hS nK;rw [mX]
 show K (Act.put _ (some 16) (Q1 4)) _
 refine hK.out _ _ (fun _ => trivial) ?_;clear hK K;refine OZ ?_
 try simp only [Sp]
 go_wp2_with fail
 have hE := uo.out.on kZ0.drew
 have hS : (fun wx : World => D0 wx B 4 (Q1 lsn)) w2.drew := by exact hE.sp.num3.1
 refine O0 (fun wx : World => D0 wx B 4 (Q1 lsn)) 99 6 ?_;refine tk 0 17 hS ?_;refine tk 1 18 hS ?_;refine tk 2 19 hS ?_;refine tk 3 20 hS ?_;refine tk 4 21 hS ?_;refine o1Q 5 (fun K hK => ?_);go_simp;have hc := RN 4 8 4092 lsn hE.arr (by simp [hE.sp.l1, OY]) (by rw [fu]; decide) fu HN.out.a.1 HN.out.a.2
 with_reducible refine hc.mono ?_
 rintro e w3 ⟨rfl, hb, hk⟩;have tm : Hid (EncS w w3 B sum lsn num bot sl raw ([] ++ sum ++ O5 lsn 8)) := hE.next hk hb;have fk : (fun wx : World => D0 wx B 4 (Q1 lsn)) w3 := tm.out.sp.num3.1;clear hb hk hE hc hS;refine hK.out _ _ (fun _ => fk) ?_;clear hK K fk uo;refine OZ ?_
 try simp only [Sp]
 go_wp2_with fail
 have hE := tm.out.on kZ0.drew
 have hS : (fun wx : World => D0 wx B 5 (Q1 num)) w3.drew := by exact hE.sp.num3.2.1
 refine O0 (fun wx : World => D0 wx B 5 (Q1 num)) 99 6 ?_;refine tk 0 23 hS ?_;refine tk 1 24 hS ?_;refine tk 2 25 hS ?_;refine tk 3 26 hS ?_;refine tk 4 27 hS ?_;refine o1Q 5 (fun K hK => ?_);go_simp;have hc := RN 12 4 4084 num hE.arr (by simp [hE.sp.l1, OY]) (by rw [fu]; decide) fu HN.out.b.1 HN.out.b.2
 with_reducible refine hc.mono ?_
 rintro e w4 ⟨rfl, hb, hk⟩;have sM : Hid (EncS w w4 B sum lsn num bot sl raw ([] ++ sum ++ O5 lsn 8 ++ O5 num 4)) := hE.next hk hb;have fk : (fun wx : World => D0 wx B 5 (Q1 num)) w4 := sM.out.sp.num3.2.1;clear hb hk hE hc hS;refine hK.out _ _ (fun _ => fk) ?_;clear hK K fk tm;refine OZ ?_
 try simp only [Sp]
 go_wp2_with fail
 have hE := sM.out.on kZ0.drew
 have hS : (fun wx : World => D0 wx B 6 (Q1 bot)) w4.drew := by exact hE.sp.num3.2.2
 refine O0 (fun wx : World => D0 wx B 6 (Q1 bot)) 99 6 ?_;refine tk 0 29 hS ?_;refine tk 1 30 hS ?_;refine tk 2 31 hS ?_;refine tk 3 32 hS ?_;refine tk 4 33 hS ?_;refine o1Q 5 (fun K hK => ?_);go_simp;have hc := RN 16 2 4080 bot hE.arr (by simp [hE.sp.l1, OY]) (by rw [fu]; decide) fu HN.out.c.1 HN.out.c.2
 with_reducible refine hc.mono ?_
 rintro e w5 ⟨rfl, hb, hk⟩;have jd : Hid (EncS w w5 B sum lsn num bot sl raw ([] ++ sum ++ O5 lsn 8 ++ O5 num 4 ++ O5 bot 2)) := hE.next hk hb;have fk : (fun wx : World => D0 wx B 6 (Q1 bot)) w5 := jd.out.sp.num3.2.2;clear hb hk hE hc hS;refine hK.out _ _ (fun _ => fk) ?_;clear hK K fk sM;refine OZ ?_
 try simp only [Sp]
 have hc := RN 18 2 4078 0 jd.out.arr (by simp [jd.out.sp.l1, OY]) (by rw [fu]; decide) fu (by decide) (by decide);have qi : Hid ((Tryz.prog.info? 215).map (·.size) = some (vals .i64 sl).length) := (by rw [O1, HP.out.l2]; exact (by kernel_rfl : (Tryz.prog.info? 215).map (·.size) = some 64) : (Tryz.prog.info? 215).map (·.size) = some (vals .i64 sl).length);obtain ⟨ss, nd⟩ : ∃ ss : List Value, vals .i64 sl = ss := ⟨_, rfl⟩;have oL : Hid (vals .i64 sl = ss) := nd;rw [nd] at qi;clear nd
 go_wp2_with (first
  | (go_at_call 49; refine hc.mono ?_; rintro e w6 ⟨rfl, F2, dX⟩; have fE : Hid (EncS w w6 B sum lsn num bot sl raw ([] ++ sum ++ O5 lsn 8 ++ O5 num 4 ++ O5 bot 2 ++ O5 0 2)) := jd.out.next dX F2; have r6 : Hid (w6.rangeAt B 7 ss) := (by rw [← oL.out]; exact fE.out.sp.slRange : w6.rangeAt B 7 ss); clear F2 dX hc)
  | (refine wpList_load_mid rfl 215 _ rfl B 7 rfl ss _ r6.out Tryz.underlying215 rfl qi.out ?_))
 go_loopw [4, 5, 6, 41] (fun _ _ _ i wr => ∃ k : Nat, k ≤ 32 ∧ i = Q1 k ∧ Hid (EncS w wr B sum lsn num bot sl raw (Rn sum lsn num bot ++ slotB (sl.take (2 * k))))) (fun _ _ _ i _ => 32 - (intOf i).toNat)
 case atStart => exact ⟨0, by omega, rfl, by simpa [slotB, Rn] using fE⟩
 case round =>
  obtain ⟨k, hk, rfl, Am⟩ := hrel
  by_cases bg : k < 32
  ·have aj : (k : Int) < 32 := by omega
   have ui := fun w => YC sl HP.out.l2 k bg w;rw [oL.out] at ui;have F4 := (show Hid (_) from HN.out.at (2 * k));have jn := (show Hid (_) from HN.out.at (2 * k + 1));have Jd : Hid (slotB (sl.take (2 * (k + 1))) = slotB (sl.take (2 * k)) ++ O5 (sl.getD (2 * k) 0) 2 ++ O5 (sl.getD (2 * k + 1) 0) 2) := (by rw [show 2 * (k + 1) = 2 * k + 1 + 1 from by omega, WK _ _ (by rw [HP.out.l2]; omega), WK _ _ (by rw [HP.out.l2]; omega)] : slotB (sl.take (2 * (k + 1))) = _);have FY : Hid ((slotB (sl.take (2 * k))).length = 4 * k) := (by rw [P7, List.length_take, HP.out.l2]; omega : (slotB (sl.take (2 * k))).length = 4 * k);generalize sl.getD (2 * k) 0 = x at *;generalize sl.getD (2 * k + 1) 0 = y at *;have Gh := P6 sum lsn num bot HP.out.l1
   go_wp2_with fail
   obtain ⟨oo, GG⟩ : ∃ oo : Nat, 20 + 4 * k = oo := ⟨_, rfl⟩
   have e1 : (20 + (k : Int) * 4) = (oo : Int) := by omega
   rw [e1];have jh : Hid (EncS w (wr.alloc (.cells #[Q1 x, Q1 y] 214)) B sum lsn num bot sl raw (Rn sum lsn num bot ++ slotB (sl.take (2 * k)))) := Am.out.on (kZ0.alloc _);have jM := Blk.new wr #[Q1 x, Q1 y] 214;have Fe := Am.out.sz;obtain ⟨w7, gZ⟩ : ∃ w7, wr.alloc (.cells #[Q1 x, Q1 y] 214) = w7 := ⟨_, rfl⟩;rw [gZ] at jh jM ⊢;have me : Hid (Blk w7 wr.heap.size 214 [Q1 x, Q1 y]) := jM;clear gZ jM
   have o1 : (oo : Int) + 2 ≤ 4096 := by omega
   have o2 : (0 : Int) ≤ (oo : Int) := by omega
   have o3 : IntKind.i64.wrap ((oo : Int) + 2) = (oo : Int) + 2 := by rw [IntKind.wrap_i64]; omega
   have o4 : (oo : Int) ≤ (oo : Int) + 2 := by omega
   have o5 : ((oo : Int) + 2).toNat = oo + 2 := by omega
   have o6 : oo + 2 - oo = 2 := by omega
   have o7 : oo < 4096 := by omega
   have o8 : ¬ 4096 = oo := by omega
   have p3 : IntKind.i64.wrap ((oo : Int) + 4) = (oo : Int) + 4 := by rw [IntKind.wrap_i64]; omega
   have p1 : (oo : Int) + 4 ≤ 4096 := by omega
   have p4 : (oo : Int) + 2 ≤ (oo : Int) + 4 := by omega
   have p2 : (0 : Int) ≤ (oo : Int) + 2 := by omega
   have p5 : ((oo : Int) + 4).toNat = oo + 4 := by omega
   have p6 : oo + 4 - (oo + 2) = 2 := by omega
   have p7 : oo + 2 < 4096 := by omega
   have p8 : ¬ 4096 = oo + 2 := by omega
   have hS : (fun wx : World => D0 wx wr.heap.size 0 (Q1 x)) w7.drew := by (have h := me.out.drew.cell 0; simpa [D0] using h)
   refine O0 (fun wx : World => D0 wx wr.heap.size 0 (Q1 x)) 99 7 ?_;refine tk 0 48 hS ?_;refine tk 1 49 hS ?_;refine tk 2 50 hS ?_;refine tk 3 51 hS ?_;refine tk 4 52 hS ?_;refine tk 5 53 hS ?_;refine o1Q 6 (fun K hK => ?_);go_simp;have hE := jh.out.on kZ0.drew;have hc := RN oo 2 (4096 - oo) x hE.arr (by rw [List.length_append, Gh, FY.out]; omega) (by rw [fu]; omega) fu F4.out.1 F4.out.2
   with_reducible refine hc.mono ?_
   rintro e w8 ⟨rfl, hb, fo⟩;have lf : Hid (EncS w w8 B sum lsn num bot sl raw (Rn sum lsn num bot ++ slotB (sl.take (2 * k)) ++ O5 x 2)) := hE.next fo hb;have uF : Hid (Blk w8 wr.heap.size 214 [Q1 x, Q1 y]) := (me.out.drew.kept fo (by omega))
   have fk : (fun wx : World => D0 wx wr.heap.size 0 (Q1 x)) w8 := by have h := uF.out.cell 0; simpa [D0] using h
   clear hb fo hE hc hS;refine hK.out _ _ (fun _ => fk) ?_;clear hK K fk jh me;refine OZ ?_
   try simp only [Sp]
   go_wp2_with fail
   have hS : (fun wx : World => D0 wx wr.heap.size 1 (Q1 y)) w8.drew := by (have h := uF.out.drew.cell 1; simpa [D0] using h)
   refine O0 (fun wx : World => D0 wx wr.heap.size 1 (Q1 y)) 99 8 ?_;refine tk 0 55 hS ?_;refine tk 1 56 hS ?_;refine tk 2 57 hS ?_;refine tk 3 58 hS ?_;refine tk 4 59 hS ?_;refine tk 5 60 hS ?_;refine tk 6 61 hS ?_;refine o1Q 7 (fun K hK => ?_);go_simp;have hE := lf.out.on kZ0.drew;have hc := RN (oo + 2) 2 (4094 - oo) y hE.arr (by rw [List.length_append, List.length_append, Gh, FY.out, OY]; omega) (by rw [fu]; omega) fu jn.out.1 jn.out.2
   with_reducible refine hc.mono ?_
   rintro e w9 ⟨rfl, hb, cA⟩;have po : Hid (EncS w w9 B sum lsn num bot sl raw (Rn sum lsn num bot ++ slotB (sl.take (2 * (k + 1))))) := (by rw [Jd.out, ← List.append_assoc, ← List.append_assoc]; exact hE.next cA hb)
   have fk : (fun wx : World => D0 wx wr.heap.size 1 (Q1 y)) w9 := by have h := (uF.out.drew.kept cA (by omega)).cell 1; simpa [D0] using h
   clear hb cA hE hc hS;refine hK.out _ _ (fun _ => fk) ?_;clear hK K fk lf uF;refine OZ ?_
   try simp only [Sp]
   go_wp2;go_roundw
   case rel => exact ⟨k + 1, by omega, by go_num, po⟩
   case measure => simp [intOf]; omega
  ·obtain rfl : k = 32 := by omega
   have hA : Rn sum lsn num bot ++ slotB (sl.take (2 * 32)) = Rn sum lsn num bot ++ slotB sl := by rw [List.take_of_length_le (by rw [HP.out.l2]; decide)]
   have hE := Am.out;rw [hA] at hE;have gw : (Py sum lsn num bot sl raw).length = 4096 := Qu HP.out.l1 HP.out.l2 fu;have mY : Blk wr (w.heap.size + 1) 211 (vals .u8 (Py sum lsn num bot sl raw)) := hE.arr;obtain ⟨ds, sy⟩ : ∃ ds : List Value, vals .u8 (Py sum lsn num bot sl raw) = ds := ⟨_, rfl⟩
   have gM : ds.length = 4096 := by rw [← sy, O1, gw]
   have Js : Hid (vals .u8 (Py sum lsn num bot sl raw) = ds) := sy;have iQ : Hid (ds.toArray.all (·.oneCell') = true) := (by rw [← sy]; exact all_oneCell_toArray Qy : ds.toArray.all (·.oneCell') = true);rw [sy] at mY
   have iZ : Tryz.zeroCells211.toList.length = 4096 := by rw [Array.length_toList]; exact Tryz.zeroCells211_size
   have ol : Hid (wr.rangeAt (w.heap.size + 1) 0 ds) := mY.rangeAll;have eo : Hid (wr.there w.heap.size 0 ds.toArray.size) := hE.res.there 0 _ (by rw [List.size_toArray, gM, iZ]; decide);have pC := hE.res.setCells ds 0 (by rw [gM, iZ]; decide);rw [lay_all _ _ (by rw [gM, iZ])] at pC;have tt : Hid ((wr.setCells w.heap.size 0 ds).rangeAt w.heap.size 0 ds) := pC.rangeAll;have HI : Hid ((Tryz.prog.info? 211).map (·.size) = some ds.length) := (by rw [gM]; exact Te : (Tryz.prog.info? 211).map (·.size) = some ds.length);have bL : Hid ((Tryz.prog.info? 211).map (·.size) = some ds.toArray.size) := (by rw [List.size_toArray]; exact HI.out : (Tryz.prog.info? 211).map (·.size) = some ds.toArray.size);have zV : Hid (Same w (wr.setCells w.heap.size 0 ds)) := Kept.setCells (.inl (Nat.le_refl _)) ds 0 hE.same;clear sy gM gw mY pC hE iZ Am hA
   go_wp2_with (first | (refine wpList_load_mid rfl 211 _ rfl (w.heap.size + 1) 0 rfl ds _ ol.out Tryz.underlying211 rfl HI.out ?_) | (refine wpList_store_mid rfl 211 _ _ rfl w.heap.size 0 ds.toArray rfl rfl eo.out bL.out iQ.out ?_))
   have DV := run_loadVar_mid (P := Tryz.prog) _ w.heap.size 0 211 ds _ tt.out Tryz.underlying211 rfl HI.out;refine bodyPost_ret (v := .agg ds.toArray) ?_ rfl ?_
   ·try simp only [Act.put, List.setIfInBounds_toArray, List.set_cons_zero, List.set_cons_succ]
    simp [results, Tryz.results179, asAddr, DV]
   ·rw [Js.out]
    exact ⟨rfl, zV.out⟩
theorem UY (A B C B' : List Value) (h : B'.length = B.length) : lay (A ++ (B ++ C)) A.length B' = A ++ (B' ++ C) := by
 unfold lay;rw [List.take_left, h, List.drop_append, List.drop_of_length_le (by omega), Nat.add_sub_cancel_left, List.drop_left, List.nil_append]
def jfe : Array (Nat × Nat) := #[(0, 4), (4, 1), (5, 1), (6, 1), (7, 64), (71, 4096)]
set_option maxRecDepth 100000 in
theorem jdv (parts : List (Nat × Value)) : Tryz.prog.built 217 parts = Instr.fill (fun i => jfe[i]?) Tryz.zeroCells217 parts := by kernel_rfl
theorem TW (L : Nat → Option (Nat × Nat)) (Z : List Value) (i off n : Nat) (v : Value) (ps : List (Nat × Value)) (hL : L i = some (off, n)) (hv : v.cells.size = n) (hz : off + n ≤ Z.length) :
  Instr.fill L Z.toArray ((i, v) :: ps) = Instr.fill L (lay Z off v.cells.toList).toArray ps := by
 obtain ⟨s1, g1⟩ := Great.foldl_set off v.cells.toList 0 Z.toArray
 have Hp : v.cells.toList.length = n := by rw [Array.length_toList, hv]
 have e : v.cells.zipIdx.foldl (fun cs (c, j) => cs.setIfInBounds (off + j) c) Z.toArray = (lay Z off v.cells.toList).toArray := by
  have e0 : v.cells.zipIdx.foldl (fun cs (c, j) => cs.setIfInBounds (off + j) c) Z.toArray = (v.cells.toList.zipIdx 0).foldl (fun cs (x : Value × Nat) => cs.setIfInBounds (off + x.2) x.1) Z.toArray := by
   rw [← Array.foldl_toList, Array.toList_zipIdx]
  rw [e0];refine Array.ext_getElem? fun k => ?_;rw [g1 k];simp only [Nat.add_zero, List.getElem?_toArray, List.size_toArray, Hp];unfold lay
  by_cases h1 : k < off
  ·rw [if_neg (by omega), List.getElem?_append_left (by simp; omega), List.getElem?_take_of_lt h1]
  ·rw [List.getElem?_append_right (by simp; omega), List.length_take, Nat.min_eq_left (by omega)]
   by_cases h2 : k < off + n
   ·rw [if_pos (by omega), List.getElem?_append_left (by omega)]
   ·rw [if_neg (by omega), List.getElem?_append_right (by omega), Hp, List.getElem?_drop]
    congr 1
    omega
 rw [Instr.fill, hL];simp only [hv, List.size_toArray, ne_eq, not_true_eq_false, decide_false, Bool.false_or, gt_iff_lt, decide_eq_true_eq];rw [if_neg (by omega), e]
set_option maxRecDepth 100000 in
theorem jdw (sum : List Int) (lsn num bot : Int) (raw : List Int) (h1 : sum.length = 4) (h3 : raw.length = 4096) :
  Tryz.prog.built 217 [(0, .agg (vals .u8 sum).toArray), (1, Q1 lsn), (2, Q1 num), (3, Q1 bot), (5, .agg (vals .u8 raw).toArray)] = some (PN sum lsn num bot (List.replicate 64 0) raw).toArray := by
 have J7 : Tryz.zeroCells217.toList = PN (List.replicate 4 0) 0 0 0 (List.replicate 64 0) (List.replicate 4096 0) := by kernel_rfl
 have hz : Tryz.zeroCells217 = (PN (List.replicate 4 0) 0 0 0 (List.replicate 64 0) (List.replicate 4096 0)).toArray := by rw [← J7]
 have L0 : ∀ (sum : List Int) (a b c : Int) (sl raw : List Int), sum.length = 4 → sl.length = 64 → raw.length = 4096 → (PN sum a b c sl raw).length = 4167 := fun _ _ _ _ _ _ h1 h2 h3 => TV h1 h2 h3;rw [jdv, hz];rw [TW _ _ 0 0 4 _ _ rfl (by simp [Value.cells, vals, h1]) (by rw [L0 _ _ _ _ _ _ List.length_replicate List.length_replicate List.length_replicate]; decide)];have e0 : lay (PN (List.replicate 4 0) 0 0 0 (List.replicate 64 0) (List.replicate 4096 0)) 0 (Value.agg (vals .u8 sum).toArray).cells.toList = PN sum 0 0 0 (List.replicate 64 0) (List.replicate 4096 0) := UY [] (vals .u8 (List.replicate 4 0)) _ (vals .u8 sum) (by rw [O1, O1, h1, List.length_replicate]);rw [e0, TW _ _ 1 4 1 _ _ rfl rfl (by rw [L0 _ _ _ _ _ _ h1 List.length_replicate List.length_replicate]; decide)]
 have lG : (vals .u8 sum).length = 4 := by rw [O1, h1]
 have e1 : lay (PN sum 0 0 0 (List.replicate 64 0) (List.replicate 4096 0)) 4 (Value.int .i64 lsn).cells.toList = PN sum lsn 0 0 (List.replicate 64 0) (List.replicate 4096 0) := by
  have h := UY (vals .u8 sum) [Q1 0] (Q1 0 :: Q1 0 :: (vals .i64 (List.replicate 64 0) ++ vals .u8 (List.replicate 4096 0))) [Q1 lsn] rfl;rw [lG] at h;exact h
 rw [e1, TW _ _ 2 5 1 _ _ rfl rfl (by rw [L0 _ _ _ _ _ _ h1 List.length_replicate List.length_replicate]; decide)]
 have e2 : lay (PN sum lsn 0 0 (List.replicate 64 0) (List.replicate 4096 0)) 5 (Value.int .i64 num).cells.toList = PN sum lsn num 0 (List.replicate 64 0) (List.replicate 4096 0) := by
  have h := UY (vals .u8 sum ++ [Q1 lsn]) [Q1 0] (Q1 0 :: (vals .i64 (List.replicate 64 0) ++ vals .u8 (List.replicate 4096 0))) [Q1 num] rfl;rw [List.length_append, lG, List.append_assoc, List.append_assoc] at h;exact h
 rw [e2, TW _ _ 3 6 1 _ _ rfl rfl (by rw [L0 _ _ _ _ _ _ h1 List.length_replicate List.length_replicate]; decide)]
 have e3 : lay (PN sum lsn num 0 (List.replicate 64 0) (List.replicate 4096 0)) 6 (Value.int .i64 bot).cells.toList = PN sum lsn num bot (List.replicate 64 0) (List.replicate 4096 0) := by
  have h := UY (vals .u8 sum ++ [Q1 lsn, Q1 num]) [Q1 0] (vals .i64 (List.replicate 64 0) ++ vals .u8 (List.replicate 4096 0)) [Q1 bot] rfl;rw [List.length_append, lG, List.append_assoc, List.append_assoc] at h;exact h
 rw [e3, TW _ _ 5 71 4096 _ _ rfl (by simp [Value.cells, vals, h3]) (by rw [L0 _ _ _ _ _ _ h1 List.length_replicate List.length_replicate]; decide)]
 have e4 : lay (PN sum lsn num bot (List.replicate 64 0) (List.replicate 4096 0)) 71 (Value.agg (vals .u8 raw).toArray).cells.toList = PN sum lsn num bot (List.replicate 64 0) raw := by
  have h := UY (vals .u8 sum ++ (Q1 lsn :: Q1 num :: Q1 bot :: vals .i64 (List.replicate 64 0))) (vals .u8 (List.replicate 4096 0)) [] (vals .u8 raw) (by rw [O1, O1, h3, List.length_replicate])
  have e : (vals .u8 sum ++ (Q1 lsn :: Q1 num :: Q1 bot :: vals .i64 (List.replicate 64 0))).length = 71 := by rw [List.length_append, lG]; rw [List.length_cons, List.length_cons, List.length_cons, O1, List.length_replicate]
  rw [e, List.append_nil, List.append_nil, List.append_assoc] at h;have e5 : PN sum lsn num bot (List.replicate 64 0) (List.replicate 4096 0) = vals .u8 sum ++ ((Q1 lsn :: Q1 num :: Q1 bot :: vals .i64 (List.replicate 64 0)) ++ vals .u8 (List.replicate 4096 0)) := rfl;rw [e5];refine Eq.trans h ?_;rw [List.append_assoc];rfl
 rw [e4];rfl
def O4 (raw : List Int) (o n : Nat) : Int := Ps ((raw.drop o).take n)
def slotsOf (raw : List Int) : List Int := (List.range 64).map fun j => O4 raw (20 + 2 * j) 2
theorem Pb (raw : List Int) : (slotsOf raw).length = 64 := by simp [slotsOf]
theorem Sn (raw : List Int) (j : Nat) (h : j < 64) : (slotsOf raw).getD j 0 = O4 raw (20 + 2 * j) 2 := by simp [slotsOf, List.getD, h]
def Sb (sl : List Int) (n : Nat) : List Int := sl.take n ++ List.replicate (64 - n) 0
theorem Xw (sl : List Int) (n : Nat) (h : sl.length = 64) (hn : n ≤ 64) : (Sb sl n).length = 64 := by simp [Sb, h]; omega
theorem WL (sl : List Int) (n : Nat) (h : sl.length = 64) (hn : n < 64) : (Sb sl n).set n (sl.getD n 0) = Sb sl (n + 1) := by
 unfold Sb;rw [List.set_append_right (h := by simp; omega)]
 have e : (sl.take n).length = n := by simp; omega
 rw [e, Nat.sub_self, show 64 - n = (64 - (n + 1)) + 1 from by omega, List.replicate_succ, List.set_cons_zero, List.take_succ_eq_append_getElem (by omega)]
 have e2 : sl.getD n 0 = sl[n] := by simp [List.getD, List.getElem?_eq_getElem (show n < sl.length by omega)]
 rw [e2, List.append_assoc];rfl
theorem Zo (sum : List Int) (lsn num bot : Int) (sl raw : List Int) (j : Nat) (x : Int) (h1 : sum.length = 4) (h2 : sl.length = 64) (hj : j < 64) : (PN sum lsn num bot sl raw).set (7 + j) (Q1 x) = PN sum lsn num bot (sl.set j x) raw := by
 have e : (vals .u8 sum).length = 4 := by rw [O1, h1]
 unfold PN;rw [List.set_append_right (h := by omega), e, show 7 + j - 4 = j + 1 + 1 + 1 from by omega, List.set_cons_succ, List.set_cons_succ, List.set_cons_succ, List.set_append_left (h := by rw [O1, h2]; exact hj)];simp [vals]
theorem SP.slot {w : World} {B : Nat} {sum : List Int} {lsn num bot : Int} {sl raw : List Int} (h : SP w B sum lsn num bot sl raw) (j : Nat) (hj : j < 64) (x : Int) : SP (w.setCell ⟨B, 7 + j, none⟩ (Q1 x)) B sum lsn num bot (sl.set j x) raw := by
 refine ⟨?_, h.l1, by rw [List.length_set]; exact h.l2, h.l3⟩;rw [← Zo sum lsn num bot sl raw j x h.l1 h.l2 hj];exact h.blk.stored _ _
theorem WM (B o n c : Nat) (raw : List Int) (w : World) (hb : Blk w B 211 (vals .u8 raw)) (hB : IsB raw) (hl : raw.length = 4096) (hn : o + n ≤ 4096) (hc : n ≤ c) :
  Calls Tryz.prog 56 #[.slice (some ⟨B, o, none⟩) n c] w fun e w' => e = .returned (Q1 (O4 raw o n)) ∧ Same w w' :=
 Rw _ _ w (Qz (Rp hB o) n) (by simp; omega) (hb.rd o n c (by omega) hc (by rw [hl]; decide))
section
variable {P : Program} {bf : Array Oper} {S : World → Prop} {o : Oper} {a : Act}
theorem WN (fq : o.guard = none) (x0 x1 x2 x3 x5 : Operand) (Jv : o.op = Op.build 217 #[(0, x0), (1, x1), (2, x2), (3, x3), (5, x5)]) (sum : List Int) (lsn num bot : Int) (raw : List Int) (cs ds : Array Value)
  (e0 : a.eval x0 = .agg ds) (e1 : a.eval x1 = Q1 lsn) (e2 : a.eval x2 = Q1 num) (e3 : a.eval x3 = Q1 bot) (e5 : a.eval x5 = .agg cs) (sy : ds = (vals .u8 sum).toArray) (ey : cs = (vals .u8 raw).toArray) (h1 : sum.length = 4) (h3 : raw.length = 4096) :
  YieldsIf Tryz.prog bf S o (.agg (PN sum lsn num bot (List.replicate 64 0) raw).toArray) a := by
 have hw : Region.wanted o (yielded bf a.tmps) = true := by simp [Region.wanted, fq]
 have hb := jdw sum lsn num bot raw h1 h3;refine .inl ⟨hw, fun w _ => ?_⟩;have pF := run_build (P := Tryz.prog) w _ #[(0, .agg (vals .u8 sum).toArray), (1, Q1 lsn), (2, Q1 num), (3, Q1 bot), (5, .agg (vals .u8 raw).toArray)] _ hb;unfold execOp;simp only [Jv]
 have e : (#[(0, x0), (1, x1), (2, x2), (3, x3), (5, x5)] : Array (Nat × Operand)).map (fun (i, x) => (i, a.eval x)) = #[(0, .agg (vals .u8 sum).toArray), (1, Q1 lsn), (2, Q1 num), (3, Q1 bot), (5, .agg (vals .u8 raw).toArray)] := by simp [e0, e1, e2, e3, e5, sy, ey]
 rw [e];simp only [Sem.run_bind, pF, Result.andThen_ok];rfl
end
theorem jax (w : World) (ad : Option Addr) (c : Nat) : (Instr.arrayAt 212 (.slice ad 4 c)).run Tryz.prog w = .ok (.pointer ad) w := by
 simp [Instr.arrayAt, run_underlying Tryz.underlying212]
theorem Xx (raw : List Int) (w : World) (hB : IsB raw) (hl : raw.length = 4096) :
  Calls Tryz.prog 177 #[.agg (vals .u8 raw).toArray] w fun e w' => ∃ P, e = .returned (Q2 P 0) ∧ w.heap.size ≤ P ∧
   SP w' P (raw.take 4) (O4 raw 4 8) (O4 raw 12 4) (O4 raw 16 2) (slotsOf raw) raw ∧ Same w w' := by
 obtain ⟨cs, ey⟩ : ∃ cs : Array Value, (vals .u8 raw).toArray = cs := ⟨_, rfl⟩
 have fQ : cs.size = 4096 := by rw [← ey]; simp [vals, hl]
 have rf : Hid (cs = (vals .u8 raw).toArray) := ey.symm;have HB : Hid (IsB raw) := hB;have HL : Hid (raw.length = 4096) := hl
 have aY : Blk (w.alloc (.cells cs 211)) w.heap.size 211 (vals .u8 raw) := by
  have h := Blk.new w cs 211;rw [← ey] at h ⊢;exact h
 have ah : Same w (w.alloc (.cells cs 211)) := kZ0.alloc _;obtain ⟨w1, fG⟩ : ∃ w1, w.alloc (.cells cs 211) = w1 := ⟨_, rfl⟩
 have cE : w1.heap.size = w.heap.size + 1 := by rw [← fG]; simp
 rw [fG] at aY ah;have bQ : Hid (Blk w1 w.heap.size 211 (vals .u8 raw)) := aY;have aN : Hid (Same w w1) := ah
 have lG : (raw.take 4).length = 4 := by simp; omega
 have kl : w1.rangeAt w.heap.size 0 (vals .u8 raw) := aY.rangeAll
 have j5 : w1.rangeAt w.heap.size 0 (vals .u8 (raw.take 4)) := aY.range 0 _ (fun j v hv => by
  have hj : j < 4 := by have := (List.getElem?_eq_some_iff.1 hv).1; rwa [O1, lG] at this
  rw [← hv, Nat.zero_add, Qp _ _ _ (by omega), Qp _ _ _ (by omega)]
  simp [List.getD, List.getElem?_take, hj])
 have lu : (Tryz.prog.info? 211).map (·.size) = some (vals .u8 raw).length := by rw [O1, hl]; exact Te
 have ti : (Tryz.prog.info? 212).map (·.size) = some (vals .u8 (raw.take 4)).length := by rw [O1, lG]; exact (by kernel_rfl : (Tryz.prog.info? 212).map (·.size) = some 4)
 obtain ⟨cl, gA⟩ : ∃ cl : List Value, vals .u8 raw = cl := ⟨_, rfl⟩;obtain ⟨dl, gM⟩ : ∃ dl : List Value, vals .u8 (raw.take 4) = dl := ⟨_, rfl⟩;rw [gA] at kl lu;rw [gM] at j5 ti;have lH : Hid (cl.toArray = (vals .u8 raw).toArray) := (by rw [gA] : cl.toArray = (vals .u8 raw).toArray);have jF : Hid (dl.toArray = (vals .u8 (raw.take 4)).toArray) := (by rw [gM] : dl.toArray = (vals .u8 (raw.take 4)).toArray);have mY := jax;rw [ey];clear ey hB hl aY ah gA gM
 go_enter Tryz.func177, Tryz.ntmps177
 go_wp2_with fail
 try rw [fG]
 clear fG
 have hS : (fun wx : World => wx.rangeAt w.heap.size 0 cl ∧ wx.rangeAt w.heap.size 0 dl) w1.drew := by exact ⟨kl, j5⟩
 refine O0 (fun wx : World => wx.rangeAt w.heap.size 0 cl ∧ wx.rangeAt w.heap.size 0 dl) 99 13 ?_;refine tk 0 6 hS ?_;refine tk 1 7 hS ?_;refine Pz (i := 2) (v := .agg dl.toArray) (some 8) rfl rfl (by kernel_rfl) (by kernel_rfl) (by kernel_rfl) (by kernel_rfl) (fun _ _ _ h => h) (yieldsIf_load_mid (by rfl) 212 _ rfl w.heap.size 0 rfl dl _ (fun _ h => h.2) Tryz.underlying212 rfl ti) hS ?_
 try simp only [Sp]
 refine tk 3 9 hS ?_;refine tk 5 11 hS ?_;refine tk 7 13 hS ?_;refine Pz (i := 9) (v := .agg cl.toArray) (some 15) rfl rfl (by kernel_rfl) (by kernel_rfl) (by kernel_rfl) (by kernel_rfl) (fun _ _ _ h => h) (yieldsIf_load_mid (by rfl) 211 _ rfl w.heap.size 0 rfl cl _ (fun _ h => h.1) Tryz.underlying211 rfl lu) hS ?_
 try simp only [Sp]
 refine o1Q 4 (fun K hK => ?_);go_simp;have hc := WM w.heap.size 4 8 4092 raw w1.drew (bQ.out.same (kZ0.drew)) HB.out HL.out (by decide) (by decide)
 with_reducible refine hc.mono ?_
 clear hc;rintro e w2 ⟨rfl, ai⟩;have bM : Same w1 w2 := Kept.trans (kZ0.drew) ai;clear ai;have hS : (fun wx : World => wx.rangeAt w.heap.size 0 cl ∧ wx.rangeAt w.heap.size 0 dl) w2 := ⟨Kept.ranges bM kl, Kept.ranges bM j5⟩;refine hK.out _ _ (fun _ => hS) ?_;clear hK K
 try simp only [Sp]
 refine o1Q 6 (fun K hK => ?_);go_simp;have hc := WM w.heap.size 12 4 4084 raw w2 (bQ.out.same (bM)) HB.out HL.out (by decide) (by decide)
 with_reducible refine hc.mono ?_
 clear hc;rintro e w3 ⟨rfl, ai⟩;have dq : Same w1 w3 := Kept.trans (bM) ai;clear ai;have hS : (fun wx : World => wx.rangeAt w.heap.size 0 cl ∧ wx.rangeAt w.heap.size 0 dl) w3 := ⟨Kept.ranges dq kl, Kept.ranges dq j5⟩;refine hK.out _ _ (fun _ => hS) ?_;clear hK K
 try simp only [Sp]
 refine o1Q 8 (fun K hK => ?_);go_simp;have hc := WM w.heap.size 16 2 4080 raw w3 (bQ.out.same (dq)) HB.out HL.out (by decide) (by decide)
 with_reducible refine hc.mono ?_
 clear hc;rintro e w4 ⟨rfl, ai⟩;have cO : Same w1 w4 := Kept.trans (dq) ai;clear ai;have hS : (fun wx : World => wx.rangeAt w.heap.size 0 cl ∧ wx.rangeAt w.heap.size 0 dl) w4 := ⟨Kept.ranges cO kl, Kept.ranges cO j5⟩;refine hK.out _ _ (fun _ => hS) ?_;clear hK K
 try simp only [Sp]
 refine Pz (i := 10) (v := .agg (PN (raw.take 4) (O4 raw 4 8) (O4 raw 12 4) (O4 raw 16 2) (List.replicate 64 0) raw).toArray) (some 16) rfl rfl (by kernel_rfl) (by kernel_rfl) (by kernel_rfl) (by kernel_rfl) (fun _ _ _ h => h) (WN rfl _ _ _ _ _ rfl (raw.take 4) (O4 raw 4 8) (O4 raw 12 4) (O4 raw 16 2) raw cl.toArray dl.toArray rfl rfl rfl rfl rfl jF.out lH.out lG HL.out) hS ?_
 try simp only [Sp]
 obtain ⟨pl, tp⟩ : ∃ pl : Array Value, (PN (raw.take 4) (O4 raw 4 8) (O4 raw 12 4) (O4 raw 16 2) (List.replicate 64 0) raw).toArray = pl := ⟨_, rfl⟩
 have OA : pl.size = 4167 := by rw [← tp, List.size_toArray]; exact TV lG List.length_replicate HL.out
 have uI : Hid ((PN (raw.take 4) (O4 raw 4 8) (O4 raw 12 4) (O4 raw 16 2) (List.replicate 64 0) raw).toArray = pl) := tp;rw [tp];clear tp;refine o1Q 11 (fun K hK => ?_);go_simp
 have hP : w.heap.size + 1 ≤ w4.heap.size := by have := cO.size; omega
 have ou : SP (w4.alloc (.cells pl 217)) w4.heap.size (raw.take 4) (O4 raw 4 8) (O4 raw 12 4) (O4 raw 16 2) (Sb (slotsOf raw) (2 * 0)) raw := by
  refine ⟨?_, lG, Xw _ _ (Pb raw) (by decide), HL.out⟩;have h := Blk.new w4 pl 217;rw [← uI.out] at h ⊢;exact h
 have bF : Same w1 (w4.alloc (.cells pl 217)) := cO.trans (kZ0.alloc _);obtain ⟨w5, wo⟩ : ∃ w5, w4.alloc (.cells pl 217) = w5 := ⟨_, rfl⟩;rw [wo] at ou bF ⊢;obtain ⟨P, FX⟩ : ∃ P, w4.heap.size = P := ⟨_, rfl⟩;rw [FX] at ou hP ⊢;have DT : Hid (SP w5 P (raw.take 4) (O4 raw 4 8) (O4 raw 12 4) (O4 raw 16 2) (Sb (slotsOf raw) (2 * 0)) raw) := ou;have qO := hid (bQ.out.same bF);have cd := hid (aN.out.trans bF);have hS : (fun wx : World => wx.rangeAt w.heap.size 0 cl ∧ wx.rangeAt w.heap.size 0 dl) w5 := ⟨Kept.ranges bF kl, Kept.ranges bF j5⟩;clear wo ou FX;refine hK.out _ _ (fun _ => hS) ?_;clear hK K
 try simp only [Sp]
 refine tk 12 3 hS ?_;refine OZ ?_
 try simp only [Sp]
 clear hS bF bM dq cO kl j5 lu ti
 go_wp2_with fail
 go_loopw [4, 5, 18] (fun _ _ i wr => ∃ k : Nat, k ≤ 32 ∧ i = Q1 k ∧ Hid (SP wr P (raw.take 4) (O4 raw 4 8) (O4 raw 12 4) (O4 raw 16 2) (Sb (slotsOf raw) (2 * k)) raw) ∧ Hid (Blk wr w.heap.size 211 (vals .u8 raw)) ∧ Hid (Same w wr)) (fun _ _ i _ => 32 - (intOf i).toNat)
 case atStart => exact ⟨0, by omega, rfl, DT, qO, cd⟩
 case round =>
  obtain ⟨k, hk, rfl, Iu, jf, cJ⟩ := hrel
  by_cases bg : k < 32
  ·have aj : (k : Int) < 32 := by omega
   have aZ : (0 : Int) ≤ (k : Int) := by omega
   have HX : Hid ((slotsOf raw).getD (2 * k) 0 = O4 raw (20 + 4 * k) 2) := (by rw [Sn _ _ (by omega), show 20 + 2 * (2 * k) = 20 + 4 * k from by omega] : (slotsOf raw).getD (2 * k) 0 = O4 raw (20 + 4 * k) 2);have HY : Hid ((slotsOf raw).getD (2 * k + 1) 0 = O4 raw (20 + 4 * k + 2) 2) := (by rw [Sn _ _ (by omega), show 20 + 2 * (2 * k + 1) = 20 + 4 * k + 2 from by omega] : (slotsOf raw).getD (2 * k + 1) 0 = O4 raw (20 + 4 * k + 2) 2)
   go_wp2_with fail
   obtain ⟨oo, GG⟩ : ∃ oo : Nat, 20 + 4 * k = oo := ⟨_, rfl⟩
   have e1 : (20 + (k : Int) * 4) = (oo : Int) := by omega
   rw [e1];rw [GG] at HX HY;obtain ⟨X, hX⟩ : ∃ X, (slotsOf raw).getD (2 * k) 0 = X := ⟨_, rfl⟩;obtain ⟨Y, hY⟩ : ∃ Y, (slotsOf raw).getD (2 * k + 1) 0 = Y := ⟨_, rfl⟩;have IX : Hid ((slotsOf raw).getD (2 * k) 0 = X) := hX;have Ho : Hid ((slotsOf raw).getD (2 * k + 1) 0 = Y) := hY;have JL : Hid (O4 raw oo 2 = X) := HX.out.symm.trans hX;have Jo : Hid (O4 raw (oo + 2) 2 = Y) := HY.out.symm.trans hY;clear hX hY HX HY
   have o1 : (oo : Int) + 2 ≤ 4096 := by omega
   have o2 : (0 : Int) ≤ (oo : Int) := by omega
   have o3 : IntKind.i64.wrap ((oo : Int) + 2) = (oo : Int) + 2 := by rw [IntKind.wrap_i64]; omega
   have o4 : (oo : Int) ≤ (oo : Int) + 2 := by omega
   have o5 : ((oo : Int) + 2).toNat = oo + 2 := by omega
   have o6 : oo + 2 - oo = 2 := by omega
   have o7 : oo < 4096 := by omega
   have o8 : ¬ 4096 = oo := by omega
   have p3 : IntKind.i64.wrap ((oo : Int) + 4) = (oo : Int) + 4 := by rw [IntKind.wrap_i64]; omega
   have p1 : (oo : Int) + 4 ≤ 4096 := by omega
   have p4 : (oo : Int) + 2 ≤ (oo : Int) + 4 := by omega
   have p2 : (0 : Int) ≤ (oo : Int) + 2 := by omega
   have p5 : ((oo : Int) + 4).toNat = oo + 4 := by omega
   have p6 : oo + 4 - (oo + 2) = 2 := by omega
   have p7 : oo + 2 < 4096 := by omega
   have p8 : ¬ 4096 = oo + 2 := by omega
   have hS : (fun _ : World => True) wr.drew := by trivial
   refine O0 (fun _ : World => True) 99 12 ?_;refine tk 0 24 hS ?_;refine tk 1 25 hS ?_;refine tk 2 26 hS ?_;refine tk 3 27 hS ?_;refine tk 4 28 hS ?_;refine tk 5 29 hS ?_;refine tk 7 31 hS ?_;refine tk 8 32 hS ?_;refine o1Q 6 (fun K hK => ?_);go_simp;have hc := WM w.heap.size (oo) 2 (4096 - oo) raw wr.drew (jf.out.same kZ0.drew) HB.out HL.out (by omega) (by omega)
   with_reducible refine hc.mono ?_
   clear hc;rintro e w6 ⟨rfl, ai⟩;have bi : Same wr w6 := kZ0.drew.trans ai;rw [JL.out];have pi := hid (Iu.out.same bi);have wN := hid (jf.out.same bi);have ip := hid (cJ.out.trans bi);clear ai bi;refine hK.out _ _ (fun _ => trivial) ?_;clear hK K
   try simp only [Sp]
   refine tk 9 33 hS ?_;refine tk 10 34 hS ?_;have c6 := pi.out.slAt (2 * k) (by omega);have f6 := pi.out.blk.frozen (7 + 2 * k);rw [show 7 + 2 * k = 7 + k * 2 from by omega] at c6 f6;refine o1Q 11 (fun K hK => ?_);go_simp;have mj := pi.out.slot (2 * k) (by omega) X;rw [← IX.out, WL _ _ (Pb raw) (by omega), IX.out, show 7 + 2 * k = 7 + k * 2 from by omega] at mj;have cL := Kept.setCell (R := fun b => b = P) (Kept.refl _ w6) (p := ⟨P, 7 + k * 2, none⟩) (.inr rfl) (Q1 X);obtain ⟨w7, gZ⟩ : ∃ w7, w6.setCell ⟨P, 7 + k * 2, none⟩ (Q1 X) = w7 := ⟨_, rfl⟩;rw [gZ] at mj cL ⊢;have oH : Hid (SP w7 P (raw.take 4) (O4 raw 4 8) (O4 raw 12 4) (O4 raw 16 2) (Sb (slotsOf raw) (2 * k + 1)) raw) := mj;have me := hid (wN.out.kept cL (by omega));have dD := hid (ip.out.next cL (fun i hi e => by omega));clear mj cL gZ c6 f6 pi wN ip;refine hK.out _ _ (fun _ => trivial) ?_;clear hK K hS;refine OZ ?_
   try simp only [Sp]
   go_wp2_with fail
   have hS : (fun _ : World => True) w7.drew := by trivial
   refine O0 (fun _ : World => True) 99 13 ?_;refine tk 0 35 hS ?_;refine tk 1 36 hS ?_;refine tk 2 37 hS ?_;refine tk 3 38 hS ?_;refine tk 4 39 hS ?_;refine tk 5 40 hS ?_;refine tk 6 41 hS ?_;refine tk 8 43 hS ?_;refine tk 9 44 hS ?_;refine o1Q 7 (fun K hK => ?_);go_simp;have hc := WM w.heap.size (oo + 2) 2 (4094 - oo) raw w7.drew (me.out.same kZ0.drew) HB.out HL.out (by omega) (by omega)
   with_reducible refine hc.mono ?_
   clear hc;rintro e w8 ⟨rfl, ai⟩;have bi : Same w7 w8 := kZ0.drew.trans ai;rw [Jo.out];have pu := hid (oH.out.same bi);have zx := hid (me.out.same bi);have jo := hid (dD.out.trans bi);clear ai bi;refine hK.out _ _ (fun _ => trivial) ?_;clear hK K
   try simp only [Sp]
   refine tk 10 45 hS ?_;refine tk 11 46 hS ?_;have c8 := pu.out.slAt (2 * k + 1) (by omega);have f8 := pu.out.blk.frozen (7 + (2 * k + 1));rw [show 7 + (2 * k + 1) = 7 + k * 2 + 1 from by omega] at c8 f8;refine o1Q 12 (fun K hK => ?_);go_simp;have cW := pu.out.slot (2 * k + 1) (by omega) Y;rw [← Ho.out, WL _ _ (Pb raw) (by omega), Ho.out, show 7 + (2 * k + 1) = 7 + k * 2 + 1 from by omega, show 2 * k + 1 + 1 = 2 * (k + 1) from by omega] at cW;have cA := Kept.setCell (R := fun b => b = P) (Kept.refl _ w8) (p := ⟨P, 7 + k * 2 + 1, none⟩) (.inr rfl) (Q1 Y);obtain ⟨w9, uy⟩ : ∃ w9, w8.setCell ⟨P, 7 + k * 2 + 1, none⟩ (Q1 Y) = w9 := ⟨_, rfl⟩;rw [uy] at cW cA ⊢;have cx : Hid (SP w9 P (raw.take 4) (O4 raw 4 8) (O4 raw 12 4) (O4 raw 16 2) (Sb (slotsOf raw) (2 * (k + 1))) raw) := cW;have cM := hid (zx.out.kept cA (by omega));have gy := hid (jo.out.next cA (fun i hi e => by omega));clear cW cA uy c8 f8 pu zx jo;refine hK.out _ _ (fun _ => trivial) ?_;clear hK K hS;refine OZ ?_
   try simp only [Sp]
   go_wp2;go_roundw
   case rel => exact ⟨k + 1, by omega, by go_num, cx, cM, gy⟩
   case measure => simp [intOf]; omega
  ·obtain rfl : k = 32 := by omega
   go_wp2;go_ret;have h := Iu.out
   have e : Sb (slotsOf raw) (2 * 32) = slotsOf raw := by simp [Sb, List.take_of_length_le, Pb]
   rw [e] at h;exact ⟨P, rfl, by omega, h, cJ.out⟩
theorem Tf (x y : Int) (w : World) : Calls Tryz.prog 182 #[.agg #[Q1 x, Q1 y]] w fun e w' => e = .returned (.bool (x != 0)) ∧ Same w w' := by
 go_enter Tryz.func182, Tryz.ntmps182
 go_wp2;go_ret;exact ⟨rfl, kZ0.alloc _⟩
theorem YD (x y : Int) (w : World) (hx : 0 ≤ x ∧ x ≤ 65535) (hy : 0 ≤ y ∧ y ≤ 65535) : Calls Tryz.prog 183 #[.agg #[Q1 x, Q1 y]] w fun e w' => e = .returned (Q1 (x + y)) ∧ Same w w' := by
 go_enter Tryz.func183, Tryz.ntmps183
 go_wp2;go_ret;exact ⟨rfl, kZ0.alloc _⟩
def QM (x : Int) : Bool := decide (0 ≤ x) && decide (x ≤ 1099511627776)
theorem Vh (x : Int) (w : World) : Calls Tryz.prog 157 #[Q1 x] w fun e w' => e = .returned (.bool (QM x)) ∧ Same w w' := by
 by_cases h : 0 ≤ x
 ·go_enter Tryz.func157, Tryz.ntmps157
  go_wp2;go_ret;refine ⟨?_, kZ0⟩;simp [QM, h]
 ·have e : QM x = false := by simp [QM, h]
  rw [e]
  go_enter Tryz.func157, Tryz.ntmps157
  go_wp2;go_ret;exact ⟨rfl, kZ0⟩
def Rt (x y x' y' : Int) : Bool := decide (max x x' < min (x + y) (x' + y'))
theorem jay (x y x' y' : Int) (w : World) (hx : 0 ≤ x ∧ x ≤ 65535) (hy : 0 ≤ y ∧ y ≤ 65535) (Ka : 0 ≤ x' ∧ x' ≤ 65535) (DW : 0 ≤ y' ∧ y' ≤ 65535) :
  Calls Tryz.prog 184 #[.agg #[Q1 x, Q1 y], .agg #[Q1 x', Q1 y']] w fun e w' => e = .returned (.bool (Rt x y x' y')) ∧ Same w w' := by
 go_enter Tryz.func184, Tryz.ntmps184
 go_wp2_with fail
 have aY := (Blk.new w #[Q1 x, Q1 y] 214).alloc (.cells #[Q1 x', Q1 y'] 214);have dJ := Blk.new (w.alloc (.cells #[Q1 x, Q1 y] 214)) #[Q1 x', Q1 y'] 214;have ah : Same w ((w.alloc (.cells #[Q1 x, Q1 y] 214)).alloc (.cells #[Q1 x', Q1 y'] 214)) := (kZ0.alloc _).alloc _;rw [World.size_alloc] at dJ;obtain ⟨w1, fG⟩ : ∃ w1, (w.alloc (.cells #[Q1 x, Q1 y] 214)).alloc (.cells #[Q1 x', Q1 y'] 214) = w1 := ⟨_, rfl⟩;rw [fG] at aY dJ ah ⊢;clear fG
 let Y1 : World → Prop := fun wx => D0 wx w.heap.size 0 (Q1 x) ∧ D0 wx w.heap.size 1 (Q1 y) ∧ D0 wx (w.heap.size + 1) 0 (Q1 x') ∧ D0 wx (w.heap.size + 1) 1 (Q1 y')
 have aR : ∀ wx, Same w1 wx → Y1 wx := fun wx h => ⟨(aY.same h).cell _, (aY.same h).cell _, (dJ.same h).cell _, (dJ.same h).cell _⟩
 have hS : Y1 w1.drew := by exact aR _ kZ0.drew
 refine O0 Y1 99 12 ?_;refine tk 0 5 hS ?_;refine tk 1 6 hS ?_;refine tk 2 7 hS ?_;refine tk 3 8 hS ?_;refine tk 4 9 hS ?_;refine tk 5 10 hS ?_;refine tk 7 12 hS ?_;refine o1Q 6 (fun K hK => ?_);go_simp;have hc := YD x y w1.drew hx hy
 with_reducible refine hc.mono ?_
 clear hc;rintro e w2 ⟨rfl, ai⟩;have bM : Same w1 w2 := Kept.trans (kZ0.drew) ai;clear ai;have hS : Y1 w2 := aR _ bM;refine hK.out _ _ (fun _ => hS) ?_;clear hK K
 try simp only [Sp]
 refine o1Q 8 (fun K hK => ?_);go_simp;have hc := YD x' y' w2 Ka DW
 with_reducible refine hc.mono ?_
 clear hc;rintro e w3 ⟨rfl, ai⟩;have dq : Same w1 w3 := Kept.trans (bM) ai;clear ai;have hS : Y1 w3 := aR _ dq;refine hK.out _ _ (fun _ => hS) ?_;clear hK K
 try simp only [Sp]
 refine tk 9 14 hS ?_;refine tk 10 15 hS ?_;refine tk 11 4 hS ?_;refine OZ ?_;go_wp2
 all_goals
  go_ret;refine ⟨congrArg (fun b => Ending.returned (.bool b)) (?_ : _ = Rt x y x' y'), ah.trans dq⟩;unfold Rt
  first
   | (rw [decide_eq_decide]; omega)
   | (symm; rw [decide_eq_true_eq]; omega)
   | (symm; rw [decide_eq_false_iff_not]; omega)
   | (rw [decide_eq_decide]; repeat (first | omega | split))
end Go.Proofs.YtapdfgkbhaoelaaGreatDoor
