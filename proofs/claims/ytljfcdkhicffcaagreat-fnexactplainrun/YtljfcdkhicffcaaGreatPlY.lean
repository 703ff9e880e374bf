import Derived.Test.YtljfcdkhicffcaaGreatG08
import Derived.Test.YtljfcdkhicffcaaGreatStepS
namespace Go.Proofs.YtljfcdkhicffcaaGreat
set_option maxRecDepth 100000
set_option maxHeartbeats 8000000
set_option linter.unusedVariables false
set_option linter.unusedSimpArgs false
open Go Go.RowKit
def VU (gp : Int) : Option Int → List RcD → Bool
 | _, [] => false
 | p, r :: rs => decide (r.1 < 0) || decide (gp * 32 ≤ r.1) || decide (1000 < r.2.length) || (match p with | none => false | some q => decide (r.1 ≤ q)) || VU gp (some r.1) rs
def WU (s : StD) : Int := TY s.1 s.2.1 s.2.2.1 s.2.2.2.1 s.2.2.2.2.1.length s.2.2.2.2.2.length
def Wi (gp gf gl : Int) (rs : List RcD) (ss : List StD) (na : Nat) : Bool := decide (YX gp gf gl ≠ 0) || decide (400 < ss.length) || decide (na ≠ ss.length) || ss.any (fun s => decide (WU s ≠ 0)) || VU gp none rs
def Xd (rs : List RcD) : Nat → Option Int
 | 0 => none
 | k + 1 => rs[k]?.map (·.1)
theorem jgz (gp : Int) (rs : List RcD) (k : Nat) (h : k < rs.length) : VU gp (Xd rs k) (rs.drop k) = (decide (rs[k].1 < 0) || decide (gp * 32 ≤ rs[k].1) || decide (1000 < rs[k].2.length) || (match Xd rs k with | none => false | some q => decide (rs[k].1 ≤ q)) || VU gp (Xd rs (k + 1)) (rs.drop (k + 1))) := by
 rw [List.drop_eq_getElem_cons h]
 show _ = (_ || VU gp (rs[k]?.map (·.1)) (rs.drop (k + 1)))
 rw [List.getElem?_eq_getElem h];rfl
theorem jem {gp gf gl : Int} (h : YX gp gf gl = 0) : 1 ≤ gp ∧ gp ≤ 16 := by
 unfold YX at h
 split at h
 ·cases h
 ·next h1 =>
  have h2 : inB gp 1 16 = true := by simpa using h1
  exact jbN h2
theorem jdj (gp gf gl : Int) (rv : Value) (rs : List EHeapRecord) (sv : Value) (ss : List StStep) (aa : Option Addr) (an ac : Nat) (w : World) (hr : RdR kHeapRecord w rv rs) (hs : RdSp w sv ss) (jR : an ≤ maxLen) :
  Calls Tryz.prog 25 #[.agg #[V gp, V gf, V gl], rv, sv, .slice aa an ac] w fun e w' => e = .returned (.bool (Wi gp gf gl (jZ9 rs) (Um ss) an)) ∧ Same w w' := by
 obtain ⟨ra, rc, rfl⟩ := hr.form;obtain ⟨sa, sc, rfl⟩ := hs.form;have d9 := hr.max;have jB := hs.row.max;unfold maxLen at d9 jB jR;obtain ⟨L, hL⟩ : ∃ n, rs.length = n := ⟨_, rfl⟩;obtain ⟨S, ic⟩ : ∃ n, ss.length = n := ⟨_, rfl⟩;have HL := hid hL;have qL := hid ic;have HR := hid hr;have HS := hid hs;obtain ⟨RP, bS⟩ : ∃ z, Wi gp gf gl (jZ9 rs) (Um ss) an = z := ⟨_, rfl⟩;rw [bS]
 have bj := (show Hid ((decide (YX gp gf gl ≠ 0) || decide (400 < S) || decide (an ≠ S) || (Um ss).any (fun s => decide (WU s ≠ 0)) || VU gp none (jZ9 rs)) = RP) from by
  show _ = RP
  rw [← bS];unfold Wi
  rw [Ul, ic])
 rw [hL] at d9 HR ⊢;rw [ic] at jB HS ⊢;have tN := Blk.newL w [V gp, V gf, V gl] 35;have dx : Same w (w.alloc (.cells #[V gp, V gf, V gl] 35)) := kZ0.alloc _;obtain ⟨GG, lV⟩ : ∃ X, w.heap.size = X := ⟨_, rfl⟩;rw [lV] at tN;have kG := fun wx => jcs gp gf gl wx;have uS := (show Hid (YX gp gf gl = 0 → 1 ≤ gp ∧ gp ≤ 16) from jem);obtain ⟨gv, Ot⟩ : ∃ z, YX gp gf gl = z := ⟨_, rfl⟩;rw [Ot] at kG bj uS;clear hr hs hL ic bS Ot
 go_enter Tryz.func25, Tryz.ntmps25
 go_upto_region 1 with fail
 try rw [lV]
 generalize w.alloc (.cells #[V gp, V gf, V gl] 35) = w1 at tN dx ⊢;have HG := hid tN;have ao := hid dx;obtain ⟨g0, g1, g2⟩ := tN.all3;clear tN dx lV
 go_wp2_with fail
 refine (kG w1).mono ?_;rintro e w2 ⟨rfl, ae⟩;have ap := hid (ao.out.trans ae);have wV := hid (HG.out.same ae);clear kG ae g0 g1 g2 ao HG
 by_cases h1 : gv = 0
 case neg =>
  have e : RP = true := by rw [← bj.out, decide_eq_true h1]; simp
  subst e
  have q1 : (gv != 0) = true := by simp [h1]
  go_wp2;go_ret;exact ⟨rfl, ap.out⟩
 have gH := hid (uS.out h1);subst h1
 by_cases h2 : 400 < S
 case pos =>
  have e : RP = true := by rw [← bj.out, decide_eq_true h2]; simp
  subst e
  have q1 : (400 : Int) < (S : Int) := by omega
  go_wp2;go_ret;exact ⟨rfl, ap.out⟩
 have q2 : ¬ (400 : Int) < (S : Int) := by omega
 have Re : (S : Int) ≤ 400 := by omega
 by_cases h3 : an = S
 case neg =>
  have e : RP = true := by rw [← bj.out, decide_eq_true h3]; simp
  subst e
  have q1 : ((an : Int) != (S : Int)) = true := by simp; omega
  have S9 : ¬ (an : Int) = (S : Int) := by omega
  go_wp2;go_ret;exact ⟨rfl, ap.out⟩
 have JU := (show Hid (((Um ss).any (fun s => decide (WU s ≠ 0)) || VU gp none (jZ9 rs)) = RP) from by
  show _ = RP
  rw [← bj.out, decide_eq_false h2, decide_eq_false (show ¬ an ≠ S from fun h => h h3)]
  simp)
 subst h3
 have Ed : an ≤ 400 := by omega
 clear bj h2 uS
 go_wp2_with fail
 clear q2 Re
 go_loopw [9] (fun i wr => ∃ j : Nat, j ≤ an ∧ i = V j ∧ Hid (∀ q, (h : q < ss.length) → q < j → WU ss[q].dat = 0) ∧ Hid (Same w wr) ∧ Hid (Blk wr GG 35 [V gp, V gf, V gl])) (fun i _ => an - (intOf i).toNat)
 case atStart => exact ⟨0, Nat.zero_le _, rfl, fun q h h2 => by omega, ap, wV⟩
 case round =>
  clear ap wV;obtain ⟨j, hj, rfl, HA, HK, HG⟩ := hrel
  by_cases aG : j < an
  case pos =>
   have h1 : j < ss.length := by rw [qL.out]; exact aG
   rcases HS.out.row.row with ⟨h, _⟩ | ⟨b, off, c, he, hc⟩
   ·rw [h] at h1; simp at h1
   injection he with e1 e2 e3
   subst e1 e3
   have HX := (show Hid (WU ss[j].dat = TY ss[j].kd ss[j].tx ss[j].rid ss[j].cnt ss[j].data.bs.length ss[j].keep.n) from by
    have h3 : ss[j].keep.bs.length = ss[j].keep.n := by have := (HS.out.data ss[j] (List.getElem_mem h1)).2.2.1; omega
    show TY _ _ _ _ _ _ = _
    simp only [StStep.dat, h3])
   obtain ⟨kd, rj⟩ : ∃ x, ss[j].kd = x := ⟨_, rfl⟩;obtain ⟨tx, mX⟩ : ∃ x, ss[j].tx = x := ⟨_, rfl⟩;obtain ⟨rid, eK⟩ : ∃ x, ss[j].rid = x := ⟨_, rfl⟩;obtain ⟨cnt, Kl⟩ : ∃ x, ss[j].cnt = x := ⟨_, rfl⟩;obtain ⟨dl, F5⟩ : ∃ x, ss[j].data.bs.length = x := ⟨_, rfl⟩;obtain ⟨kn, FX⟩ : ∃ x, ss[j].keep.n = x := ⟨_, rfl⟩
   have EY : dl ≤ maxLen := by rw [← F5]; exact (HS.out.data ss[j] (List.getElem_mem h1)).1.1
   have D8 : kn ≤ maxLen := by rw [← FX]; exact (HS.out.data ss[j] (List.getElem_mem h1)).2.1
   have d0 : wr.cell? ⟨b, off + j * 6, none⟩ = some (V kd) := by rw [← rj]; exact HK.out.cellOf (hc j 0 h1 (by decide)) (fun e => e)
   have d1 : wr.cell? ⟨b, off + j * 6 + 1, none⟩ = some (V tx) := by rw [← mX]; exact HK.out.cellOf (hc j 1 h1 (by decide)) (fun e => e)
   have d2 : wr.cell? ⟨b, off + j * 6 + 2, none⟩ = some (V rid) := by rw [← eK]; exact HK.out.cellOf (hc j 2 h1 (by decide)) (fun e => e)
   have d3 : wr.cell? ⟨b, off + j * 6 + 3, none⟩ = some (V cnt) := by rw [← Kl]; exact HK.out.cellOf (hc j 3 h1 (by decide)) (fun e => e)
   have d4 : wr.cell? ⟨b, off + j * 6 + 4, none⟩ = some (.slice ss[j].data.a dl ss[j].data.c) := by rw [← F5]; exact HK.out.cellOf (hc j 4 h1 (by decide)) (fun e => e)
   have d5 : wr.cell? ⟨b, off + j * 6 + 5, none⟩ = some (.slice ss[j].keep.a kn ss[j].keep.c) := by rw [← FX]; exact HK.out.cellOf (hc j 5 h1 (by decide)) (fun e => e)
   generalize ss[j].data.a = da at d4;generalize ss[j].data.c = dc at d4;generalize ss[j].keep.a = ka at d5;generalize ss[j].keep.c = kc at d5;have kS := jci kd tx rid cnt da dl dc ka kn kc wr EY D8;rw [rj, mX, eK, Kl, F5, FX] at HX;clear hc e2 rj mX eK Kl F5 FX EY D8;obtain ⟨F, hF⟩ : ∃ z, TY kd tx rid cnt dl kn = z := ⟨_, rfl⟩;rw [hF] at kS HX;clear hF
   go_wp2_with fail
   refine kS.mono ?_;rintro e w3 ⟨rfl, ar⟩;have ax := hid (HK.out.trans ar);have gK := hid (HG.out.same ar);clear kS ar d0 d1 d2 d3 d4 d5 HK HG
   by_cases hF : F = 0
   case neg =>
    have e : RP = true := by
     rw [← JU.out];have h4 : (Um ss).any (fun s => decide (WU s ≠ 0)) = true := List.any_eq_true.2 ⟨ss[j].dat, List.mem_map_of_mem (List.getElem_mem h1), decide_eq_true (by rw [HX.out]; exact hF)⟩;rw [h4];rfl
    subst e
    have q1 : (F != 0) = true := by simp [hF]
    go_wp2;go_ret;exact ⟨rfl, ax.out⟩
   subst hF;go_wp2;go_roundw
   case rel => exact ⟨j + 1, by omega, by go_num, fun q h h2 => by
    by_cases hq : q = j
    ·subst hq; exact HX.out
    ·exact HA.out q h (by omega), ax, gK⟩
   case measure => simp [intOf]; omega
  obtain rfl : an = j := by omega
  have eJ := (show Hid (VU gp (Xd (jZ9 rs) 0) ((jZ9 rs).drop 0) = RP) from by
   show _ = RP
   rw [← JU.out]
   have h4 : (Um ss).any (fun s => decide (WU s ≠ 0)) = false := by
    refine List.any_eq_false.2 (fun s hs => ?_);obtain ⟨x, hx, rfl⟩ := List.mem_map.1 hs;obtain ⟨q, hq, rfl⟩ := List.getElem_of_mem hx;have := HA.out q hq (by rw [← qL.out]; exact hq);simp [this]
   rw [h4]
   rfl)
  clear JU HA
  go_wp2_with fail
  go_loopw [10] (fun i wr => ∃ k : Nat, k ≤ L ∧ i = V k ∧ Hid (VU gp (Xd (jZ9 rs) k) ((jZ9 rs).drop k) = RP) ∧ Hid (Same w wr) ∧ Hid (Blk wr GG 35 [V gp, V gf, V gl])) (fun i _ => L - (intOf i).toNat)
  case atStart => exact ⟨0, Nat.zero_le _, rfl, eJ, HK, HG⟩
  case round =>
   clear eJ HK HG;obtain ⟨k, hk, rfl, HA, HK, HG⟩ := hrel
   by_cases gu : k < L
   case neg =>
    obtain rfl : L = k := by omega
    have e : RP = false := by
     rw [← HA.out, List.drop_of_length_le (by rw [TQ, HL.out]; exact Nat.le_refl _)]
     cases Xd (jZ9 rs) L <;> rfl
    subst e;go_wp2;go_ret;exact ⟨rfl, HK.out⟩
   have h1 : k < rs.length := by rw [HL.out]; exact gu
   rcases HR.out.row with ⟨h, _⟩ | ⟨b, off, c, he, hc⟩
   ·rw [h] at h1; simp at h1
   injection he with e1 e2 e3
   subst e1 e3;obtain ⟨id, eB⟩ : ∃ x, rs[k].id = x := ⟨_, rfl⟩;obtain ⟨v1, dj⟩ : ∃ x, rs[k].v = x := ⟨_, rfl⟩
   have d0 : wr.cell? ⟨b, off + k * 2, none⟩ = some (V id) := by rw [← eB]; exact HK.out.cellOf (hc k 0 h1 (by decide)) (fun e => e)
   have d1 : wr.cell? ⟨b, off + k * 2 + 1, none⟩ = some v1 := by rw [← dj]; exact HK.out.cellOf (hc k 1 h1 (by decide)) (fun e => e)
   have ch : Rd .u8 w v1 rs[k].bs := by rw [← dj]; exact HR.out.data rs[k] (List.getElem_mem h1)
   obtain ⟨da, dc, gd⟩ := ch.form;have EY := ch.1;unfold maxLen at EY;obtain ⟨dn, dM⟩ : ∃ z, rs[k].bs.length = z := ⟨_, rfl⟩;rw [dM] at gd EY
   have HB := (show Hid ((decide (id < 0) || decide (gp * 32 ≤ id) || decide (1000 < dn) || (match Xd (jZ9 rs) k with | none => false | some q => decide (id ≤ q)) || VU gp (Xd (jZ9 rs) (k + 1)) ((jZ9 rs).drop (k + 1))) = RP) from by
    show _ = RP
    have h2 : k < (jZ9 rs).length := by rw [TQ]; exact h1
    have h3 := jgz gp (jZ9 rs) k h2
    have h4 : (jZ9 rs)[k] = (id, rs[k].bs) := by
     simp only [jZ9, List.getElem_map, EHeapRecord.dat];rw [eB]
    rw [h4, dM] at h3;rw [← h3]
    exact HA.out)
   obtain ⟨pp, yg⟩ : ∃ pp, k - 1 = pp := ⟨_, rfl⟩
   obtain ⟨pi, lU, ER⟩ : ∃ pi : Int, wr.cell? ⟨b, off + pp * 2, none⟩ = some (V pi) ∧ Hid (0 < k → Xd (jZ9 rs) k = some pi) := by
    have h5 : k - 1 < rs.length := by omega
    rw [← yg];refine ⟨rs[k - 1].id, HK.out.cellOf (hc (k - 1) 0 h5 (by decide)) (fun e => e), fun h0 => ?_⟩;obtain ⟨m, rfl⟩ : ∃ m, k = m + 1 := ⟨k - 1, by omega⟩
    show (jZ9 rs)[m]?.map (·.1) = some rs[m].id
    rw [List.getElem?_eq_getElem (by rw [TQ]; omega)];simp [jZ9, EHeapRecord.dat]
   subst gd;have Bc := hid lU;have xP := (show Hid (Blk (wr.alloc (.cells #[V id, .slice da dn dc] 79)) GG 35 [V gp, V gf, V gl]) from HG.out.alloc _);have rj := Blk.newL wr [V id, .slice da dn dc] 79;have tU : Same wr (wr.alloc (.cells #[V id, .slice da dn dc] 79)) := kZ0.alloc _;obtain ⟨X, aQ⟩ : ∃ X, wr.heap.size = X := ⟨_, rfl⟩;rw [aQ] at rj;have vg := hid yg;clear hc e2 eB dj ch dM lU HA yg
   go_upto_region 12 with fail
   try rw [aQ]
   generalize wr.alloc (.cells #[V id, .slice da dn dc] 79) = w2 at xP rj tU ⊢;have ap := hid (HK.out.trans tU);have e3 := tU.cellOf Bc.out (fun e => e);have e0 := rj.cell 0;have e1 := rj.cell 1;have e2 := xP.out.cell 0;simp only [List.getElem?_cons_zero, List.getElem?_cons_succ] at e0 e1 e2;clear tU rj aQ Bc d0 d1 HK HG
   have Au : IntKind.i64.wrap (gp * 32) = gp * 32 := by rw [IntKind.wrap_i64]; have := gH.out; omega
   by_cases p1 : id < 0
   case pos =>
    as_aux_lemma =>
    have e : RP = true := by rw [← HB.out, decide_eq_true p1]; simp
    subst e;clear HB ER
    let Y1 : World → Prop := fun wx : World => wx.cell? ⟨X, 0, none⟩ = some (V id) ∧ wx.cell? ⟨X, 1, none⟩ = some (.slice da dn dc) ∧ wx.cell? ⟨GG, 0, none⟩ = some (V gp) ∧ wx.cell? ⟨b, off + pp * 2, none⟩ = some (V pi)
    refine TT Y1 99 32 rfl (by kernel_rfl) ?_;have ae : Same w2 (World.drew w2) := kZ0.drew;have ax := hid (ap.out.trans ae);have gK := hid (xP.out.same ae);have hS : Y1 (World.drew w2) := ⟨ae.cellOf e0 (fun e => e), ae.cellOf e1 (fun e => e), ae.cellOf e2 (fun e => e), ae.cellOf e3 (fun e => e)⟩;generalize World.drew w2 = w3 at hS ax gK ⊢;clear ae e0 e1 e2 e3;refine tk 0 49 hS ?_;refine tk 1 50 hS ?_;refine tk 2 51 hS ?_;refine tk 3 52 hS ?_;refine tkS 4 53 hS ?_;refine tkS 5 54 hS ?_;refine tkS 6 55 hS ?_;refine tkS 7 56 hS ?_;refine tkS 8 57 hS ?_;refine tkS 9 58 hS ?_;refine tk 10 59 hS ?_;refine tk 11 60 hS ?_;refine tkS 12 61 hS ?_;refine tkS 13 62 hS ?_;refine tkS 14 63 hS ?_;refine tkS 15 64 hS ?_;refine tk 16 65 hS ?_;refine tk 17 66 hS ?_;refine tkS 18 67 hS ?_;refine tkS 19 68 hS ?_;refine tkS 20 69 hS ?_;refine tkS 21 70 hS ?_;refine tkS 22 71 hS ?_;refine tkS 23 72 hS ?_;refine tkS 24 73 hS ?_;refine tkS 25 74 hS ?_;refine tkS 26 75 hS ?_;refine tkS 27 76 hS ?_;refine tkS 28 77 hS ?_;refine tkS 29 78 hS ?_;refine tkS 30 79 hS ?_;refine tk 31 80 hS ?_;refine TS (by kernel_rfl) ?_
    go_wp2_with fail
    go_wp2;go_ret;exact ⟨rfl, ax.out⟩
   by_cases p2 : gp * 32 ≤ id
   case pos =>
    as_aux_lemma =>
    have e : RP = true := by rw [← HB.out, decide_eq_true p2]; simp
    subst e;clear HB ER
    let Y2 : World → Prop := fun wx : World => wx.cell? ⟨X, 0, none⟩ = some (V id) ∧ wx.cell? ⟨X, 1, none⟩ = some (.slice da dn dc) ∧ wx.cell? ⟨GG, 0, none⟩ = some (V gp) ∧ wx.cell? ⟨b, off + pp * 2, none⟩ = some (V pi)
    refine TT Y2 99 32 rfl (by kernel_rfl) ?_;have ae : Same w2 (World.drew w2) := kZ0.drew;have ax := hid (ap.out.trans ae);have gK := hid (xP.out.same ae);have hS : Y2 (World.drew w2) := ⟨ae.cellOf e0 (fun e => e), ae.cellOf e1 (fun e => e), ae.cellOf e2 (fun e => e), ae.cellOf e3 (fun e => e)⟩;generalize World.drew w2 = w3 at hS ax gK ⊢;clear ae e0 e1 e2 e3;refine tk 0 49 hS ?_;refine tk 1 50 hS ?_;refine tk 2 51 hS ?_;refine tk 3 52 hS ?_;refine tk 4 53 hS ?_;refine tk 5 54 hS ?_;refine tk 6 55 hS ?_;refine tk 7 56 hS ?_;refine tk 8 57 hS ?_;refine tk 9 58 hS ?_;refine tk 10 59 hS ?_;refine tk 11 60 hS ?_;refine tkS 12 61 hS ?_;refine tkS 13 62 hS ?_;refine tkS 14 63 hS ?_;refine tkS 15 64 hS ?_;refine tk 16 65 hS ?_;refine tk 17 66 hS ?_;refine tkS 18 67 hS ?_;refine tkS 19 68 hS ?_;refine tkS 20 69 hS ?_;refine tkS 21 70 hS ?_;refine tkS 22 71 hS ?_;refine tkS 23 72 hS ?_;refine tkS 24 73 hS ?_;refine tkS 25 74 hS ?_;refine tkS 26 75 hS ?_;refine tkS 27 76 hS ?_;refine tkS 28 77 hS ?_;refine tkS 29 78 hS ?_;refine tkS 30 79 hS ?_;refine tk 31 80 hS ?_;refine TS (by kernel_rfl) ?_
    go_wp2_with fail
    go_wp2;go_ret;exact ⟨rfl, ax.out⟩
   by_cases p3 : 1000 < dn
   case pos =>
    as_aux_lemma =>
    have e : RP = true := by rw [← HB.out, decide_eq_true p3]; simp
    subst e
    have Ox : (1000 : Int) < (dn : Int) := by omega
    clear HB ER
    let Y3 : World → Prop := fun wx : World => wx.cell? ⟨X, 0, none⟩ = some (V id) ∧ wx.cell? ⟨X, 1, none⟩ = some (.slice da dn dc) ∧ wx.cell? ⟨GG, 0, none⟩ = some (V gp) ∧ wx.cell? ⟨b, off + pp * 2, none⟩ = some (V pi)
    refine TT Y3 99 32 rfl (by kernel_rfl) ?_;have ae : Same w2 (World.drew w2) := kZ0.drew;have ax := hid (ap.out.trans ae);have gK := hid (xP.out.same ae);have hS : Y3 (World.drew w2) := ⟨ae.cellOf e0 (fun e => e), ae.cellOf e1 (fun e => e), ae.cellOf e2 (fun e => e), ae.cellOf e3 (fun e => e)⟩;generalize World.drew w2 = w3 at hS ax gK ⊢;clear ae e0 e1 e2 e3;refine tk 0 49 hS ?_;refine tk 1 50 hS ?_;refine tk 2 51 hS ?_;refine tk 3 52 hS ?_;refine tk 4 53 hS ?_;refine tk 5 54 hS ?_;refine tk 6 55 hS ?_;refine tk 7 56 hS ?_;refine tk 8 57 hS ?_;refine tk 9 58 hS ?_;refine tk 10 59 hS ?_;refine tk 11 60 hS ?_;refine tk 12 61 hS ?_;refine tk 13 62 hS ?_;refine tk 14 63 hS ?_;refine tk 15 64 hS ?_;refine tk 16 65 hS ?_;refine tk 17 66 hS ?_;refine tkS 18 67 hS ?_;refine tkS 19 68 hS ?_;refine tkS 20 69 hS ?_;refine tkS 21 70 hS ?_;refine tkS 22 71 hS ?_;refine tkS 23 72 hS ?_;refine tkS 24 73 hS ?_;refine tkS 25 74 hS ?_;refine tkS 26 75 hS ?_;refine tkS 27 76 hS ?_;refine tkS 28 77 hS ?_;refine tkS 29 78 hS ?_;refine tkS 30 79 hS ?_;refine tk 31 80 hS ?_;refine TS (by kernel_rfl) ?_
    go_wp2_with fail
    go_wp2;go_ret;exact ⟨rfl, ax.out⟩
   have Ox : ¬ (1000 : Int) < (dn : Int) := by omega
   have bK := (show Hid (((match Xd (jZ9 rs) k with | none => false | some q => decide (id ≤ q)) || VU gp (Xd (jZ9 rs) (k + 1)) ((jZ9 rs).drop (k + 1))) = RP) from by
    show _ = RP
    rw [← HB.out, decide_eq_false p1, decide_eq_false p2, decide_eq_false p3]
    simp)
   clear HB
   by_cases p4 : k = 0
   case pos =>
    as_aux_lemma =>
    subst p4;have bX := (show Hid (VU gp (Xd (jZ9 rs) (0 + 1)) ((jZ9 rs).drop (0 + 1)) = RP) from bK.out);obtain ⟨kk, mb⟩ : ∃ kk : Nat, kk = 0 := ⟨0, rfl⟩
    let Y4 : World → Prop := fun wx : World => wx.cell? ⟨X, 0, none⟩ = some (V id) ∧ wx.cell? ⟨X, 1, none⟩ = some (.slice da dn dc) ∧ wx.cell? ⟨GG, 0, none⟩ = some (V gp) ∧ wx.cell? ⟨b, off + pp * 2, none⟩ = some (V pi)
    refine TT Y4 99 32 rfl (by kernel_rfl) ?_;have ae : Same w2 (World.drew w2) := kZ0.drew;have ax := hid (ap.out.trans ae);have gK := hid (xP.out.same ae);have hS : Y4 (World.drew w2) := ⟨ae.cellOf e0 (fun e => e), ae.cellOf e1 (fun e => e), ae.cellOf e2 (fun e => e), ae.cellOf e3 (fun e => e)⟩;generalize World.drew w2 = w3 at hS ax gK ⊢;clear ae e0 e1 e2 e3;refine tk 0 49 hS ?_;refine tk 1 50 hS ?_;refine tk 2 51 hS ?_;refine tk 3 52 hS ?_;refine tk 4 53 hS ?_;refine tk 5 54 hS ?_;refine tk 6 55 hS ?_;refine tk 7 56 hS ?_;refine tk 8 57 hS ?_;refine tk 9 58 hS ?_;refine tk 10 59 hS ?_;refine tk 11 60 hS ?_;refine tk 12 61 hS ?_;refine tk 13 62 hS ?_;refine tk 14 63 hS ?_;refine tk 15 64 hS ?_;refine tk 16 65 hS ?_;refine tk 17 66 hS ?_;refine tk 18 67 hS ?_;refine tk 19 68 hS ?_;refine tk 20 69 hS ?_;refine tkS 21 70 hS ?_;refine tkS 22 71 hS ?_;refine tkS 23 72 hS ?_;refine tkS 24 73 hS ?_;refine tkS 25 74 hS ?_;refine tkS 26 75 hS ?_;refine tkS 27 76 hS ?_;refine tkS 28 77 hS ?_;refine tkS 29 78 hS ?_;refine tk 30 79 hS ?_;refine tk 31 80 hS ?_;refine TS (by kernel_rfl) ?_
    go_wp2_with fail
    go_roundw
    case rel => exact ⟨0 + 1, by omega, by go_num, bX, ax, gK⟩
    case measure => simp [intOf]; omega
   have Rh : (0 : Int) < (k : Int) := by omega
   have PE : 0 < k := by omega
   have qw : IntKind.i64.wrap ((k : Int) - 1) = (pp : Int) := by rw [IntKind.wrap_i64]; have := vg.out; omega
   have P9 : (pp : Int) < (L : Int) := by have := vg.out; omega
   have P1 : pp < L := by omega
   have ij := (show Hid ((decide (id ≤ pi) || VU gp (Xd (jZ9 rs) (k + 1)) ((jZ9 rs).drop (k + 1))) = RP) from by
    show _ = RP
    have h := bK.out;rw [ER.out (by omega)] at h
    exact h)
   clear bK ER
   by_cases p5 : id ≤ pi
   case pos =>
    as_aux_lemma =>
    have e : RP = true := by rw [← ij.out, decide_eq_true p5]; rfl
    subst e
    let Y5 : World → Prop := fun wx : World => wx.cell? ⟨X, 0, none⟩ = some (V id) ∧ wx.cell? ⟨X, 1, none⟩ = some (.slice da dn dc) ∧ wx.cell? ⟨GG, 0, none⟩ = some (V gp) ∧ wx.cell? ⟨b, off + pp * 2, none⟩ = some (V pi)
    refine TT Y5 99 32 rfl (by kernel_rfl) ?_;have ae : Same w2 (World.drew w2) := kZ0.drew;have ax := hid (ap.out.trans ae);have gK := hid (xP.out.same ae);have hS : Y5 (World.drew w2) := ⟨ae.cellOf e0 (fun e => e), ae.cellOf e1 (fun e => e), ae.cellOf e2 (fun e => e), ae.cellOf e3 (fun e => e)⟩;generalize World.drew w2 = w3 at hS ax gK ⊢;clear ae e0 e1 e2 e3;refine tk 0 49 hS ?_;refine tk 1 50 hS ?_;refine tk 2 51 hS ?_;refine tk 3 52 hS ?_;refine tk 4 53 hS ?_;refine tk 5 54 hS ?_;refine tk 6 55 hS ?_;refine tk 7 56 hS ?_;refine tk 8 57 hS ?_;refine tk 9 58 hS ?_;refine tk 10 59 hS ?_;refine tk 11 60 hS ?_;refine tk 12 61 hS ?_;refine tk 13 62 hS ?_;refine tk 14 63 hS ?_;refine tk 15 64 hS ?_;refine tk 16 65 hS ?_;refine tk 17 66 hS ?_;refine tk 18 67 hS ?_;refine tk 19 68 hS ?_;refine tk 20 69 hS ?_;refine tk 21 70 hS ?_;refine tk 22 71 hS ?_;refine tk 23 72 hS ?_;refine tk 24 73 hS ?_;refine tk 25 74 hS ?_;refine tk 26 75 hS ?_;refine tk 27 76 hS ?_;refine tk 28 77 hS ?_;refine tk 29 78 hS ?_;refine tk 30 79 hS ?_;refine tk 31 80 hS ?_;refine TS (by kernel_rfl) ?_
    go_wp2_with fail
    go_wp2;go_ret;exact ⟨rfl, ax.out⟩
   have cP := (show Hid (VU gp (Xd (jZ9 rs) (k + 1)) ((jZ9 rs).drop (k + 1)) = RP) from by
    show _ = RP
    have h := ij.out;rw [decide_eq_false p5] at h
    exact h)
   clear ij
   let Y6 : World → Prop := fun wx : World => wx.cell? ⟨X, 0, none⟩ = some (V id) ∧ wx.cell? ⟨X, 1, none⟩ = some (.slice da dn dc) ∧ wx.cell? ⟨GG, 0, none⟩ = some (V gp) ∧ wx.cell? ⟨b, off + pp * 2, none⟩ = some (V pi)
   refine TT Y6 99 32 rfl (by kernel_rfl) ?_;have ae : Same w2 (World.drew w2) := kZ0.drew;have ax := hid (ap.out.trans ae);have gK := hid (xP.out.same ae);have hS : Y6 (World.drew w2) := ⟨ae.cellOf e0 (fun e => e), ae.cellOf e1 (fun e => e), ae.cellOf e2 (fun e => e), ae.cellOf e3 (fun e => e)⟩;generalize World.drew w2 = w3 at hS ax gK ⊢;clear ae e0 e1 e2 e3;refine tk 0 49 hS ?_;refine tk 1 50 hS ?_;refine tk 2 51 hS ?_;refine tk 3 52 hS ?_;refine tk 4 53 hS ?_;refine tk 5 54 hS ?_;refine tk 6 55 hS ?_;refine tk 7 56 hS ?_;refine tk 8 57 hS ?_;refine tk 9 58 hS ?_;refine tk 10 59 hS ?_;refine tk 11 60 hS ?_;refine tk 12 61 hS ?_;refine tk 13 62 hS ?_;refine tk 14 63 hS ?_;refine tk 15 64 hS ?_;refine tk 16 65 hS ?_;refine tk 17 66 hS ?_;refine tk 18 67 hS ?_;refine tk 19 68 hS ?_;refine tk 20 69 hS ?_;refine tk 21 70 hS ?_;refine tk 22 71 hS ?_;refine tk 23 72 hS ?_;refine tk 24 73 hS ?_;refine tk 25 74 hS ?_;refine tk 26 75 hS ?_;refine tk 27 76 hS ?_;refine tk 28 77 hS ?_;refine tk 29 78 hS ?_;refine tk 30 79 hS ?_;refine tk 31 80 hS ?_;refine TS (by kernel_rfl) ?_
   go_wp2_with fail
   clear Au qw p1 p2 Ox Rh PE P9 P1 p5;go_wp2;go_roundw
   case rel => exact ⟨k + 1, by omega, by go_num, cP, ax, gK⟩
   case measure => simp [intOf]; omega
end Go.Proofs.YtljfcdkhicffcaaGreat
