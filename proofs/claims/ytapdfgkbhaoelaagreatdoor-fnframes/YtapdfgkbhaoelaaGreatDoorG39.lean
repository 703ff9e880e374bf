import Derived.Test.YtapdfgkbhaoelaaGreatDoorG37
namespace Go.Proofs.YtapdfgkbhaoelaaGreatDoor
set_option maxRecDepth 100000
set_option maxHeartbeats 8000000
set_option linter.unusedVariables false
set_option linter.unusedSimpArgs false
open Go.RowKit
theorem jda {x : Int} (h0 : 0 ≤ x) (h1 : x ≤ 65535) : OW x 2 = O5 x 2 := by
 unfold OW;rw [if_neg]
 ·rfl
 ·rintro (h | h | h | h)
  ·omega
  ·omega
  ·omega
  ·apply h
   have e : (256 : Int) ^ (2 : Int).toNat = 65536 := by decide
   rw [e];omega
theorem Ui (x : Int) (w : World) (h0 : 0 ≤ x) (h1 : x ≤ 65535) : Calls Tryz.prog 52 #[Q1 x, Q1 2] w fun e w' => ∃ a c, e = .returned (.slice a 2 c) ∧ Rd .u8 w' (.slice a 2 c) (O5 x 2) ∧ Same w w' := by
 refine (QV x 2 w ⟨by omega, by omega⟩ ⟨by omega, by omega⟩).mono ?_;rintro e w' ⟨a, c, rfl, hf, ho, hk⟩;rw [jda h0 h1, OY] at ho ⊢;exact ⟨a, c, rfl, ho.rd, hk⟩
theorem RY (g cap : Nat) (xs : List Int) (s : Nat) (x y : Int) (w : World) (hl : xs.length = 4096) (hs : s < 32) (hx : 0 ≤ x ∧ x ≤ 65535) (hy : 0 ≤ y ∧ y ≤ 65535) (ho : Own 0 5 .u8 w (Q3 g 4096 cap) xs) :
  Calls Tryz.prog 106 #[Q3 g 4096 cap, Q1 (s : Int), Q1 x, Q1 y] w fun e w' => e = .returned (.tuple #[]) ∧ Own 0 5 .u8 w' (Q3 g 4096 cap) (PX (PX xs (20 + 4 * s) (O5 x 2)) (20 + 4 * s + 2) (O5 y 2)) ∧ Kept (fun b => b = g) w w' := by
 have HO := hid ho;have HL := hid hl;have k1 := fun wx => Ui x wx hx.1 hx.2;have k2 := fun wx => Ui y wx hy.1 hy.2;have nE : 4096 ≤ cap := ho.caps.2;obtain ⟨o1, dL⟩ : ∃ o, 20 + 4 * s = o := ⟨_, rfl⟩;obtain ⟨o2, eZ⟩ : ∃ o, 20 + 4 * s + 2 = o := ⟨_, rfl⟩;rw [eZ, dL]
 have q1 : IntKind.i64.wrap (4 * (s : Int)) = 4 * (s : Int) := by rw [IntKind.wrap_i64]; omega
 have q2 : IntKind.i64.wrap (20 + 4 * (s : Int)) = (o1 : Int) := by rw [IntKind.wrap_i64]; omega
 have q3 : IntKind.i64.wrap ((o1 : Int) + 2) = (o2 : Int) := by rw [IntKind.wrap_i64]; omega
 have b1 : o1 + 2 ≤ 4096 := by omega
 have b2 : o2 + 2 ≤ 4096 := by omega
 have g1 : (o1 : Int) ≤ 4096 := by omega
 have g2 : (o2 : Int) ≤ 4096 := by omega
 have g5 : (o1 : Int) ≤ (cap : Int) := by omega
 have g6 : (o2 : Int) ≤ (cap : Int) := by omega
 have n1 : ¬ cap = o1 := by omega
 have n2 : ¬ cap = o2 := by omega
 clear ho hl dL eZ
 go_enter Tryz.func106, Tryz.ntmps106
 go_wp2_with fail
 have hS : (fun _ : World => True) w.drew := by trivial
 refine O0 (fun _ : World => True) 99 8 ?_;refine tk 0 8 hS ?_;refine tk 1 9 hS ?_;refine tk 2 10 hS ?_;refine tk 3 11 hS ?_;refine tkV 4 12 (.slice (some ⟨g, o1, none⟩) (4096 - o1) (cap - o1)) hS ?_;refine tk 5 13 hS ?_;refine o1Q 6 (fun K hK => ?_);go_simp;refine (k1 _).mono ?_;rintro e w1 ⟨a1, c1, rfl, du, ah⟩;have aN : Hid (Same w w1) := kZ0.drew.trans ah;have dS := hid (HO.out.same aN.out);have wZ := Ql (P := Tryz.prog) 3 Tryz.underlying22 Rj dS.out HL.out.symm o1 (by rw [OY]; omega) du;rw [show behind g cap o1 = some ⟨g, o1, none⟩ from if_neg n1, OY] at wZ;have Lm := hid (dS.out.laid HL.out.symm o1 (O5 x 2) (by rw [OY]; omega));refine hK.out _ _ (fun _ => trivial) ?_;clear hK K ah du
 try simp only [Sp]
 refine o1Q 7 (fun K hK => ?_);go_simp;refine hK.out _ _ (fun _ => trivial) ?_;clear hK K
 try simp only [Sp]
 refine OZ ?_;have aO : Hid (Kept (fun b => b = g) w (w1.setCells g o1 (vals .u8 (O5 x 2)))) := Kept.setCells (R := fun b => b = g) (.inr rfl) _ _ (aN.out.mono (fun _ _ e => e.elim))
 have je : (PX xs o1 (O5 x 2)).length = 4096 := by rw [Pk _ _ _ (by rw [OY, HL.out]; omega), HL.out]
 have G3 := hid je;clear wZ je;generalize w1.setCells g o1 (vals .u8 (O5 x 2)) = w2 at *
 go_wp2_with fail
 have hS : (fun _ : World => True) w2.drew := by trivial
 refine O0 (fun _ : World => True) 99 9 ?_;refine tk 0 16 hS ?_;refine tk 1 17 hS ?_;refine tk 2 18 hS ?_;refine tk 3 19 hS ?_;refine tk 4 20 hS ?_;refine tkV 5 21 (.slice (some ⟨g, o2, none⟩) (4096 - o2) (cap - o2)) hS ?_;refine tk 6 22 hS ?_;refine o1Q 7 (fun K hK => ?_);go_simp;refine (k2 _).mono ?_;rintro e w3 ⟨a3, c3, rfl, nP, aZ⟩;have bo : Hid (Same w2 w3) := kZ0.drew.trans aZ;have cI := hid (Lm.out.same bo.out);have pG := Ql (P := Tryz.prog) 3 Tryz.underlying22 Rj cI.out G3.out.symm o2 (by rw [OY]; omega) nP;rw [show behind g cap o2 = some ⟨g, o2, none⟩ from if_neg n2, OY] at pG;have zZ := hid (cI.out.laid G3.out.symm o2 (O5 y 2) (by rw [OY]; omega));refine hK.out _ _ (fun _ => trivial) ?_;clear hK K aZ nP
 try simp only [Sp]
 refine o1Q 8 (fun K hK => ?_);go_simp;refine hK.out _ _ (fun _ => trivial) ?_;clear hK K
 try simp only [Sp]
 refine OZ ?_;have bp : Hid (Kept (fun b => b = g) w (w3.setCells g o2 (vals .u8 (O5 y 2)))) := Kept.setCells (R := fun b => b = g) (.inr rfl) _ _ (aO.out.trans (bo.out.mono (fun _ _ e => e.elim)));refine bodyPost_end (results_none Tryz.results106 _ _ _) rfl ?_;exact ⟨rfl, zZ.out, bp.out⟩
def SC (raw : List Int) (i : Nat) : List Int := raw.take 148 ++ (List.replicate (i - 148) 0 ++ raw.drop i)
theorem XF (raw : List Int) (i : Nat) (hl : raw.length = 4096) (h1 : 148 ≤ i) (h2 : i ≤ 4096) : (SC raw i).length = 4096 := by simp [SC, hl]; omega
theorem YX (raw : List Int) : SC raw 148 = raw := by simp [SC]
theorem jaf (raw : List Int) (i : Nat) (hl : raw.length = 4096) (h1 : 148 ≤ i) (h2 : i < 4096) : (SC raw i).set i 0 = SC raw (i + 1) := by
 unfold SC
 have hA : (raw.take 148 ++ List.replicate (i - 148) (0 : Int)).length = i := by simp [hl]; omega
 rw [← List.append_assoc, List.set_append_right (h := by rw [hA]; exact Nat.le_refl _), hA, Nat.sub_self, List.drop_eq_getElem_cons (by omega), List.set_cons_zero, show i + 1 - 148 = (i - 148) + 1 from by omega, List.replicate_succ', List.append_assoc, List.append_assoc];simp
theorem jag {raw : List Int} (h : PK raw = true) : SC raw 4096 = Py (raw.take 4) (O4 raw 4 8) (O4 raw 12 4) (O4 raw 16 2) (slotsOf raw) (List.replicate 4096 0) := by
 have hl := Qx h;have he := (V6 h).1
 have h4 : (raw.take 4).length = 4 := by rw [List.length_take, hl]; rfl
 have mA := Pb raw;rw [QE _ _ _ _ _ _ h4 mA] at he;rw [QE _ _ _ _ _ _ h4 mA]
 have ht : raw.take 148 = Rn (raw.take 4) (O4 raw 4 8) (O4 raw 12 4) (O4 raw 16 2) ++ slotB (slotsOf raw) := by
  have hx : (Rn (raw.take 4) (O4 raw 4 8) (O4 raw 12 4) (O4 raw 16 2) ++ slotB (slotsOf raw)).length = 148 := by rw [List.length_append, P6 _ _ _ _ h4, P7, mA]
  rw [← List.append_assoc] at he
  conv => lhs; rw [← he]
  rw [List.take_append_of_le_length (by omega), List.take_of_length_le (by omega)]
 unfold SC;rw [ht, List.drop_of_length_le (by omega), List.append_nil, List.drop_replicate, List.append_assoc]
theorem jb0 {raw sl : List Int} {sum : List Int} {lsn num bot : Int} (h : SlOK sl) (h1 : sum.length = 4) (h2 : sl.length = 64) (hl : raw.length = 4096) (k : Nat) (hk : k < 32) (h0 : ¬ sl.getD (2 * k) 0 = 0) :
  PX (PX (PX (Py sum lsn num bot (cSl sl k) (Qf raw sl k)) (QC sl (k + 1)).toNat (stretch raw (sl.getD (2 * k) 0) (sl.getD (2 * k + 1) 0))) (20 + 4 * k) (O5 (QC sl (k + 1)) 2)) (20 + 4 * k + 2) (O5 (sl.getD (2 * k + 1) 0) 2) = Py sum lsn num bot (cSl sl (k + 1)) (Qf raw sl (k + 1)) := by
 have hb := h.bot (k + 1) (by omega);have cq := h.bot k (by omega);have h3 := h.one k hk;have hs := RA sl k;have lK : (stretch raw (sl.getD (2 * k) 0) (sl.getD (2 * k + 1) 0)).length = (sl.getD (2 * k + 1) 0).toNat := RG raw _ _ hl (by omega) (by omega) (by omega)
 have hc : (cSl sl k).length = 64 := by rw [Qa, h2]
 rw [Ym h1 hc (h.body raw hl k (by omega)) _ _ (by omega) (by rw [lK]; omega)];rw [show 20 + 4 * k = 20 + 2 * (2 * k) from by omega, Uo h1 hc (2 * k) _ (by omega)];rw [show 20 + 2 * (2 * k) + 2 = 20 + 2 * (2 * k + 1) from by omega, Uo h1 (by rw [List.length_set]; exact hc) (2 * k + 1) _ (by omega)]
 have e1 : Qf raw sl (k + 1) = PX (Qf raw sl k) (QC sl (k + 1)).toNat (stretch raw (sl.getD (2 * k) 0) (sl.getD (2 * k + 1) 0)) := by rw [Qf, if_neg h0]
 have e2 : cSl sl (k + 1) = (cSl sl k).set (2 * k) (QC sl (k + 1)) := by rw [cSl, if_neg h0]
 rw [e1, e2]
 congr 1
 have hg := jaO sl k (2 * k + 1) (by omega);apply List.ext_getElem?;intro j
 by_cases hj : j = 2 * k + 1
 ·subst hj
  rw [List.getElem?_set_self (by rw [List.length_set, hc]; omega), List.getElem?_set_ne (by omega)];rw [← hg, List.getD_eq_getElem?_getD, List.getElem?_eq_getElem (by rw [hc]; omega)];rfl
 ·rw [List.getElem?_set_ne (by omega)]
theorem U8 (v : Value) (raw : List Int) (w : World) (hB : IsB raw) (hn : raw.length ≤ 1099511627776) (hv : Rd .u8 w v raw) :
  Calls Tryz.prog 102 #[v] w fun e w' => ∃ a c, e = .returned (.slice a (Qg raw).length c) ∧ (∀ b, (Value.slice a (Qg raw).length c).ownBlock = some b → w.heap.size ≤ b) ∧ Own 0 5 .u8 w' (.slice a (Qg raw).length c) (Qg raw) ∧ Same w w' := by
 have HV := hid hv;have HB := hid hB;have HN := hid hn;have kO := fun wx hv => Uk v raw wx hB hn hv;obtain ⟨av, cv, rfl⟩ := hv.form;clear hv
 by_cases bj : PK raw = true
 case neg =>
  have uX : PK raw = false := by simpa using bj
  rw [show Qg raw = [] from if_neg bj];rw [uX] at kO;clear bj uX
  go_enter Tryz.func102, Tryz.ntmps102
  go_wp2_with fail
  refine (kO _ HV.out).mono ?_;rintro e w1 ⟨rfl, ah⟩;have aN := hid ah;clear ah;go_wp2;go_ret;exact ⟨_, _, rfl, fun b hb => by have h : w1.heap.size = b := (by simpa [Value.ownBlock] using hb); have := aN.out.size; omega, World.ownsRow_made w1 #[] 0 (Nat.zero_le _) (by simp) (by simp), aN.out.alloc _⟩
 have hl := Qx bj;have kj := hid (TH hB bj);have nQ := hid bj;have HL := hid hl;have zU := hid (jag bj)
 have h4 : (raw.take 4).length = 4 := by rw [List.length_take, hl]; rfl
 have H4 := hid h4;have Al := hid (Pb raw);have zW := (TH hB bj).bot 32 (Nat.le_refl _);have oC := hid (show Qg raw = PX (Py (raw.take 4) (O4 raw 4 8) (O4 raw 12 4) (O4 raw 16 2) (cSl (slotsOf raw) 32) (Qf raw (slotsOf raw) 32)) 16 (O5 (QC (slotsOf raw) 32) 2) from by rw [Z7 h4 (by rw [Qa, Pb])]; exact if_pos bj)
 have tp : (Qg raw).length = 4096 := by rw [show Qg raw = Uf raw from if_pos bj]; exact YW hB bj
 rw [tp];have qG := hid (Qv raw hB hl);rw [bj] at kO;have kG := fun s wx hv => VW (.slice av raw.length cv) raw s wx hB hn hv;have F0 : Hid (∀ k : Nat, k < 32 → ¬ (slotsOf raw).getD (2 * k) 0 = 0 → QD raw (k : Int) = (true, stretch raw ((slotsOf raw).getD (2 * k) 0) ((slotsOf raw).getD (2 * k + 1) 0))) := fun k hk h0 => SL bj hk h0
 have pA : Hid (∀ k : Nat, k < 32 → (slotsOf raw).getD (2 * k) 0 = 0 → QD raw (k : Int) = (false, [])) := fun k hk h0 => Sq (.inr (.inr (.inr (by rw [Int.toNat_natCast]; exact h0))))
 obtain ⟨sl, cw⟩ : ∃ sl, slotsOf raw = sl := ⟨_, rfl⟩;rw [cw] at kj zU Al oC qG F0 pA zW;obtain ⟨sum, nL⟩ : ∃ sum, raw.take 4 = sum := ⟨_, rfl⟩;rw [nL] at zU H4 oC;obtain ⟨lsn, jy⟩ : ∃ x, O4 raw 4 8 = x := ⟨_, rfl⟩;obtain ⟨num, dY⟩ : ∃ x, O4 raw 12 4 = x := ⟨_, rfl⟩;obtain ⟨bot, lB⟩ : ∃ x, O4 raw 16 2 = x := ⟨_, rfl⟩;rw [jy, dY, lB] at zU oC;rw [hl] at kO kG HV ⊢;clear bj hl h4 tp cw nL jy dY lB hB hn
 go_enter Tryz.func102, Tryz.ntmps102
 go_wp2_with fail
 refine (kO _ HV.out).mono ?_;rintro e w1 ⟨rfl, ah⟩;have aN := hid ah;clear ah kO
 go_wp2_with fail
 refine (TG _ raw _ HN.out (HV.out.same aN.out)).mono ?_;rintro e w2 ⟨a2, n2, c2, rfl, eZ, iq, aj⟩
 obtain ⟨g, e1, e2⟩ : ∃ g, a2 = some ⟨g, 0, none⟩ ∧ n2 = 4096 := by
  rcases eZ.form with ⟨_, h⟩ | ⟨g, cap, h, _⟩
  ·have := HL.out; rw [h] at this; simp at this
  ·cases h; exact ⟨g, rfl, HL.out⟩
 subst e1;subst e2;have cG := hid eZ;have Ad : w1.heap.size ≤ g := iq g rfl;have aO := hid (aN.out.trans aj);have cE := aN.out.size;clear eZ iq aj
 go_wp2_with fail
 go_loopw [4] (fun i wr => ∃ (k : Nat), 148 ≤ k ∧ k ≤ 4096 ∧ i = Q1 (k : Int) ∧ Hid (Own 0 5 .u8 wr (Q3 g 4096 c2) (SC raw k)) ∧ Hid (Same w wr)) (fun i _ => 4096 - (intOf i).toNat)
 case atStart => exact ⟨148, Nat.le_refl _, by omega, rfl, by rw [YX]; exact cG, aO⟩
 case round =>
  obtain ⟨k, ah, aj, rfl, HO, HK⟩ := hrel
  by_cases bg : k < 4096
  ·have uR := XF raw k HL.out ah aj
   have u0 := HO.out.cell uR.symm k bg;have uf := HO.out.frozen uR.symm k;have fX := hid (HO.out.stored uR.symm k 0);rw [jaf raw k HL.out ah bg] at fX;generalize (SC raw k).getD k 0 = MH at u0;clear uR;go_wp2;go_roundw
   case rel => exact ⟨k + 1, by omega, by omega, by go_num, fX, HK.out.setCell (.inl (by dsimp only; omega)) _⟩
   case measure => simp [intOf]; omega
  have ai : k = 4096 := by omega
  rw [ai, zU.out] at HO
  have Co : ¬ (k : Int) < 4096 := by omega
  clear ai ah aj bg;clear cG aO
  go_wp2_with fail
  clear Co
  go_loopw [5, 6] (fun b i wx => ∃ (k : Nat), k ≤ 32 ∧ b = Q1 (QC sl k) ∧ i = Q1 (k : Int) ∧ Hid (Own 0 5 .u8 wx (Q3 g 4096 c2) (Py sum lsn num bot (cSl sl k) (Qf raw sl k))) ∧ Hid (Same w wx)) (fun _ i _ => 32 - (intOf i).toNat)
  case atStart => exact ⟨0, Nat.zero_le _, rfl, rfl, HO, HK⟩
  case round =>
   clear HO HK;obtain ⟨k, hk, rfl, rfl, HO, HK⟩ := hrel
   by_cases bg : k < 32
   case pos =>
    have kG := fun wx hv => kG (k : Int) wx hv;have h1 := kj.out.one k bg;have cq := kj.out.bot k hk;have aY := kj.out.bot (k + 1) (by omega);have mI := RA sl k
    by_cases h0 : sl.getD (2 * k) 0 = 0
    ·rw [pA.out k bg h0] at kG
     have zz : sl.getD (2 * k + 1) 0 = 0 := by omega
     have i9 := hid (show cSl sl (k + 1) = cSl sl k from by rw [cSl, if_pos h0]);have oZ := hid (show Qf raw sl (k + 1) = Qf raw sl k from by rw [Qf, if_pos h0]);have Kz := hid (show QC sl (k + 1) = QC sl k from by omega);clear h1 mI zz h0
     go_wp2_with fail
     refine (kG _ (HV.out.same HK.out)).mono ?_;rintro e w4 ⟨⟨u, ⟨te, ta, tc, tb⟩⟩, rfl, hd, hf, ho, cS⟩
     obtain ⟨rfl, rfl⟩ : u = false ∧ tb = [] := by simpa [StPageRecord.dat] using hd
     dsimp only [StPageRecord.val, BS.v];have bp := hid cS;clear hd hf ho cS;go_wp2;go_roundw
     case rel => exact ⟨k + 1, by omega, by rw [Kz.out], by go_num, by rw [i9.out, oZ.out]; exact HO.out.same (bp.out.alloc _), (HK.out.trans bp.out).alloc _⟩
     case measure => simp [intOf]; omega
    ·rw [F0.out k bg h0] at kG
     have jr := hid (jb0 (raw := raw) (sum := sum) (lsn := lsn) (num := num) (bot := bot) kj.out H4.out Al.out HL.out k bg h0);have pj : (stretch raw (sl.getD (2 * k) 0) (sl.getD (2 * k + 1) 0)).length = (sl.getD (2 * k + 1) 0).toNat := RG raw _ _ HL.out (by omega) (by omega) (by omega);obtain ⟨yn, uz⟩ : ∃ n : Nat, sl.getD (2 * k + 1) 0 = (n : Int) := ⟨(sl.getD (2 * k + 1) 0).toNat, by omega⟩;obtain ⟨bn, iJ⟩ : ∃ n : Nat, QC sl (k + 1) = (n : Int) := ⟨(QC sl (k + 1)).toNat, by omega⟩;have vh := hid iJ;rw [uz] at jr pj kG mI h1;rw [iJ] at jr mI aY;rw [Int.toNat_natCast] at jr pj;generalize stretch raw (sl.getD (2 * k) 0) (yn : Int) = st at *;have gw : (Py sum lsn num bot (cSl sl k) (Qf raw sl k)).length = 4096 := Qu H4.out (by rw [Qa, Al.out]) (kj.out.body raw HL.out k hk);obtain ⟨E, hE⟩ : ∃ E, Py sum lsn num bot (cSl sl k) (Qf raw sl k) = E := ⟨_, rfl⟩;rw [hE] at HO jr gw;obtain ⟨cb, jm⟩ : ∃ x, QC sl k = x := ⟨_, rfl⟩;rw [jm] at mI cq ⊢;have gq := hid gw;have fX := hid pj
     have q1 : IntKind.i64.wrap (cb - (yn : Int)) = (bn : Int) := by rw [IntKind.wrap_i64]; omega
     have Lk : 148 ≤ bn ∧ bn + yn ≤ 4096 := by omega
     have lM : 4096 ≤ c2 := HO.out.caps.2
     have g1 : (bn : Int) ≤ (c2 : Int) := by omega
     have g2 : (bn : Int) ≤ 4096 := by omega
     obtain ⟨ab, qH⟩ : ∃ ab : Option Addr, (if c2 = bn then some (⟨g, 0, none⟩ : Addr) else some ⟨g, bn, none⟩) = ab := ⟨_, rfl⟩;have vz : Hid (behind g c2 bn = ab) := qH;clear h1 mI uz iJ gw pj h0 cq hE jm
     go_wp2_with fail
     refine (kG _ (HV.out.same HK.out)).mono ?_;rintro e w4 ⟨⟨u, ⟨te, ta, tc, tb⟩⟩, rfl, hd, hf, ho, cS⟩
     obtain ⟨rfl, Is⟩ : u = true ∧ tb = st := by simpa [StPageRecord.dat] using hd
     have gC : Hid (Rd .u8 w4 (.slice ta tb.length tc) tb) := (OwnL.of_one ho).rd;dsimp only [StPageRecord.val, BS.v];rw [Is] at gC ⊢;have bp := hid cS;have dK : Hid (g < wr.heap.size) := (HO.out.lt g rfl).2;rw [fX.out] at gC ⊢;clear hd hf ho cS kG Is;have oU := hid (Blk.newL w4 [.bool true, .slice ta yn tc] 24);have N4 := bp.out.size
     go_wp2_with fail
     have cd : Hid (Same wr (w4.alloc (.cells #[.bool true, .slice ta yn tc] 24))) := bp.out.alloc _;have jb := hid (gC.out.same (kZ0.alloc (.cells #[.bool true, .slice ta yn tc] 24)));generalize w4.alloc (.cells #[.bool true, .slice ta yn tc] 24) = w5 at oU cd jb ⊢;obtain ⟨m0, m1⟩ := oU.out.all2;have hS : (fun wx : World => D0 wx w4.heap.size 1 (.slice ta yn tc)) w5.drew := m1;refine O0 (fun wx : World => D0 wx w4.heap.size 1 (.slice ta yn tc)) 99 6 ?_;refine tk 0 36 hS ?_;refine tk 1 37 hS ?_;refine tkV 2 38 (.slice ab (4096 - bn) (c2 - bn)) hS ?_;refine tk 3 39 hS ?_;refine tk 4 40 hS ?_;have dZ := hid ((HO.out.same cd.out).same kZ0.drew);have iL := Ql (P := Tryz.prog) 3 Tryz.underlying22 Rj dZ.out gq.out.symm bn (by rw [fX.out]; omega) (jb.out.same kZ0.drew);rw [vz.out, fX.out] at iL;have gW := hid (dZ.out.laid gq.out.symm bn st (by rw [fX.out]; omega));refine o1Q 5 (fun K hK => ?_);go_simp;have bR : Hid (Kept (fun b => b = g) wr (w5.drew.setCells g bn (vals .u8 st))) := Kept.setCells (R := fun b => b = g) (.inr rfl) _ _ ((cd.out.drew).mono (fun _ _ e => e.elim))
     have jj : ¬ w4.heap.size = g := by have := dK.out; omega
     have uS : Kept (fun b => b = g) w5 (w5.drew.setCells g bn (vals .u8 st)) := Kept.setCells (R := fun b => b = g) (.inr rfl) _ _ kZ0.drew;have ul := hid (oU.out.kept uS jj);refine hK.out _ _ (fun _ => ul.out.cell 1) ?_;clear hK K iL uS
     try simp only [Sp]
     refine OZ ?_;generalize w5.drew.setCells g bn (vals .u8 st) = w6 at gW bR ul ⊢;clear m0 m1 hS;obtain ⟨m0, m1⟩ := ul.out.all2
     have Hm : (PX E bn st).length = 4096 := by rw [Pk _ _ _ (by rw [fX.out, gq.out]; omega), gq.out]
     go_wp2_with fail
     refine (RY g c2 (PX E bn st) k (bn : Int) (yn : Int) w6 Hm bg (by omega) (by omega) gW.out).mono ?_;rintro e w7 ⟨rfl, lW, cL⟩;rw [jr.out] at lW;have gh := hid lW;have dD := hid (bR.out.trans cL);clear lW cL Hm;go_wp2;go_roundw
     case rel => exact ⟨k + 1, by omega, by rw [vh.out], by go_num, gh, HK.out.next dD.out (fun i hi e => by omega)⟩
     case measure => simp [intOf]; omega
   obtain rfl : k = 32 := by omega
   obtain ⟨bn, iJ⟩ : ∃ n : Nat, QC sl 32 = (n : Int) := ⟨(QC sl 32).toNat, by omega⟩;have gw : (Py sum lsn num bot (cSl sl 32) (Qf raw sl 32)).length = 4096 := Qu H4.out (by rw [Qa, Al.out]) (kj.out.body raw HL.out 32 hk);have gq := hid gw
   have kP := fun wx => Ui (QC sl 32) wx (by omega) (by omega)
   have lM : 4096 ≤ c2 := HO.out.caps.2
   have n1 : ¬ c2 = 16 := by omega
   have g1 : (16 : Int) ≤ (c2 : Int) := by omega
   obtain ⟨cb, jm⟩ : ∃ x, QC sl 32 = x := ⟨_, rfl⟩;rw [jm] at kP ⊢ oC;obtain ⟨E, hE⟩ : ∃ E, Py sum lsn num bot (cSl sl 32) (Qf raw sl 32) = E := ⟨_, rfl⟩;rw [hE] at HO gq oC;clear gw iJ zW jm hE
   go_wp2_with fail
   have hS : (fun _ : World => True) wr.drew := by trivial
   refine O0 (fun _ : World => True) 99 5 ?_;refine tk 0 49 hS ?_;refine tkV 1 50 (.slice (some ⟨g, 16, none⟩) (4096 - 16) (c2 - 16)) hS ?_;refine tk 2 51 hS ?_;refine o1Q 3 (fun K hK => ?_);go_simp;refine (kP _).mono ?_;rintro e w3 ⟨a3, c3, rfl, nP, aZ⟩;have bo : Hid (Same wr w3) := kZ0.drew.trans aZ;have cI := hid (HO.out.same bo.out);have pG := Ql (P := Tryz.prog) 3 Tryz.underlying22 Rj cI.out gq.out.symm 16 (by rw [OY]; omega) nP;rw [show behind g c2 16 = some ⟨g, 16, none⟩ from if_neg n1, OY] at pG;have zZ := hid (cI.out.laid gq.out.symm 16 (O5 cb 2) (by rw [OY]; omega));refine hK.out _ _ (fun _ => trivial) ?_;clear hK K aZ nP
   try simp only [Sp]
   refine o1Q 4 (fun K hK => ?_);go_simp;refine hK.out _ _ (fun _ => trivial) ?_;clear hK K
   try simp only [Sp]
   refine OZ ?_;rw [← oC.out] at zZ;have bp : Hid (Same w (w3.setCells g 16 (vals .u8 (O5 cb 2)))) := Kept.setCells (.inl (by omega)) _ _ (HK.out.trans bo.out);clear pG;go_wp2;go_ret;exact ⟨_, _, rfl, fun b hb => by have h : g = b := (by simpa [Value.ownBlock] using hb); omega, zZ.out, bp.out⟩
end Go.Proofs.YtapdfgkbhaoelaaGreatDoor
