import Derived.Test.YtaojjcnmififoaaGreatG29
import Derived.Test.YtaojjcnmififoaaGreatG12
import Derived.Test.YtaojjcnmififoaaGreatG27
import Derived.Test.YtaojjcnmififoaaGreatG08
import Derived.Deep.AppendLies
import Derived.Laws.CopyOwn
namespace Go.Proofs.YtaojjcnmififoaaGreat
set_option maxHeartbeats 4000000
set_option linter.unusedVariables false
set_option linter.unusedSimpArgs false
set_option maxRecDepth 100000
open Go.RowKit
theorem WO (sec : Int) (v : Value) (bs : List Int) (w : World) (hn : bs.length ≤ 1099511627776) (hv : Rd .u8 w v bs) :
  Calls Tryz.prog 42 #[.agg #[.int .i64 sec, v]] w fun e w' => ∃ g, e = .returned (.agg #[.int .i64 sec, .slice (some ⟨g, 0, none⟩) bs.length bs.length]) ∧ w.heap.size ≤ g ∧ Own 0 5 .u8 w' (.slice (some ⟨g, 0, none⟩) bs.length bs.length) bs ∧ Same w w' := by
 obtain ⟨a, c, rfl⟩ := hv.form
 have HV := (show Hid (Rd .u8 w _ bs) from hv)
 clear hv
 go_enter Tryz.func42, Tryz.ntmps42
 go_wp2_with fail
 refine (Xy _ bs _ hn (HV.out.same (((kZ0.alloc _).alloc _).alloc _))).mono ?_
 rintro e w1 ⟨g, rfl, hg, ho, hk⟩
 simp only [World.size_alloc] at hg
 have b1 := ((FBox.new (w.alloc (.cells #[.int .i64 sec, .slice a bs.length c] 71)) (.int .i64 0) (.slice none 0 0) 76).next _).same hk
 have b2 := (FBox.new ((w.alloc (.cells #[.int .i64 sec, .slice a bs.length c] 71)).alloc (.cells #[.int .i64 0, .slice none 0 0] 76)) (.int .i64 sec) (.slice none 0 0) 76).same hk
 simp only [World.size_alloc] at b1 b2
 have HO := (show Hid (Own 0 5 .u8 w1 _ bs) from ho)
 have HK : Hid (Same w w1) := (((kZ0.alloc _).alloc _).alloc _).trans hk
 have eT : w.heap.size + 1 + 1 < w1.heap.size := b2.lt
 obtain ⟨p1, p2, p3, p4⟩ := b1
 obtain ⟨q1, q2, q3, q4⟩ := b2
 clear ho hk
 go_wp2
 refine bodyPost_ret (v := .agg #[.int .i64 sec, .slice (some ⟨g, 0, none⟩) bs.length bs.length]) (by simp [results, Tryz.results42, go_sem, p1, p2]) rfl ⟨g, rfl, by omega, ?_, ?_⟩
 ·refine HO.out.kept (R := fun b => b = w.heap.size + 1 ∨ b = w.heap.size + 1 + 1) ?_ (fun b hb e => by simp [Value.ownBlock] at hb; omega)
  exact (((kZ0.setCell (.inr (.inr rfl)) _).setTwo (.inr (.inl rfl)) _ _))
 ·exact (HK.out.setCell (.inl (by simp; omega)) _).setTwo (.inl (by simp)) _ _
theorem Wt (v : Value) (ps : List PW) (w : World) (hn : ps.length ≤ 1073741824) (hs : ∀ p ∈ ps, p.bs.length ≤ 1099511627776) (hv : RdP w v ps) :
  Calls Tryz.prog 20 #[v] w fun e w' => ∃ g qs, e = .returned (.slice (some ⟨g, 0, none⟩) ps.length ps.length) ∧ Rh qs = Rh ps ∧ (∀ b, UE (.slice (some ⟨g, 0, none⟩) ps.length ps.length) qs b → w.heap.size ≤ b) ∧
   OwnP 0 76 5 w' (.slice (some ⟨g, 0, none⟩) ps.length ps.length) qs ∧ Same w w' := by
 obtain ⟨i0, hi, eL, eT, fM⟩ := info_parts Tryz.infoSW
 rcases hv.row with ⟨rfl, a, c, rfl⟩ | ⟨b, off, c, rfl, hc⟩
 ·clear hv hn hs
  go_enter Tryz.func20, Tryz.ntmps20
  go_wp2_with (at_make; refine wpList_make_full _ rfl (.tmp 6) (.tmp 6) 31 rfl 0 76 i0 (.agg #[.int .i64 0, .slice none 0 0]) 2 Tryz.underlying31 hi eL eT .i64 .i64 _ _ 0 rfl rfl (by simp) (by simp) (by simp) (by simp) (Nat.zero_le _) ?_; intro w1 cy bS; have HO : Hid (OwnP 0 76 5 w1 (.slice (some ⟨w.heap.size, 0, none⟩) 0 0) []) := Zp (n := 0) (by simpa using cy); have HK : Hid (Same w w1) := Kept.of_grown bS (fun k e => by cases e); clear cy bS)
  refine wp_loop_rounds 1 ?_
  rw [rounds_succ]
  go_wp2
  go_ret
  refine ⟨w.heap.size, [], rfl, rfl, fun b hb => ?_, HO.out, HK.out⟩
  rcases hb with hb | ⟨p, hp, _⟩
  ·simp [Value.ownBlock] at hb; omega
  ·simp at hp
 ·have HP : Hid (RdP w (.slice (some ⟨b, off, none⟩) ps.length c) ps) := hv
  have HC : Hid (∀ i (h : i < ps.length), w.cell? ⟨b, off + i * 2, none⟩ = some (.int .i64 ps[i].sec) ∧ w.cell? ⟨b, off + i * 2 + 1, none⟩ = some ps[i].v) := hc
  have HS : Hid (∀ p ∈ ps, p.bs.length ≤ 1099511627776) := hs
  clear hc hv hs
  generalize hl : ps.length = len at hn HP ⊢
  have HL : Hid (ps.length = len) := hl
  clear hl
  go_enter Tryz.func20, Tryz.ntmps20
  go_wp2_with (at_make; refine wpList_make_full _ rfl (.tmp 6) (.tmp 6) 31 rfl 0 76 i0 (.agg #[.int .i64 0, .slice none 0 0]) 2 Tryz.underlying31 hi eL eT .i64 .i64 _ _ len rfl rfl (by simp) (by simp) (by rw [fM]; omega) (by unfold maxLen; omega) (Nat.zero_le _) ?_; intro w1 cy bS; have HO : Hid (OwnP 0 76 5 w1 (.slice (some ⟨w.heap.size, 0, none⟩) len len) (List.replicate len TK)) := Zp (by simpa using cy); have HK : Hid (Same w w1) := Kept.of_grown bS (fun k e => by cases e); clear cy bS)
  go_loopw [4] (fun i wr => ∃ (k : Nat) (qs : List PW), k ≤ len ∧ i = .int .i64 k ∧ qs.length = k ∧ Hid (Rh qs = Rh (ps.take k)) ∧ Hid (∀ b, (∃ p ∈ qs, p.v.ownBlock = some b) → w.heap.size ≤ b) ∧ Hid (OwnP 0 76 5 wr (.slice (some ⟨w.heap.size, 0, none⟩) len len) (qs ++ List.replicate (len - k) TK)) ∧ Hid (Same w wr)) (fun i _ => len - (intOf i).toNat)
  case atStart => exact ⟨0, [], Nat.zero_le _, rfl, rfl, rfl, fun b ⟨p, hp, _⟩ => by simp at hp, by simpa using HO, HK⟩
  case round =>
   obtain ⟨k, qs, hk, rfl, Co, HQ, HF, HOr, dO⟩ := hrel
   have gg : Hid (qs.length = k) := Co
   clear Co
   by_cases bH : k < len
   ·have dh : k < ps.length := by rw [HL.out]; exact bH
    have xo : List.replicate (len - k) TK = TK :: List.replicate (len - (k + 1)) TK := by rw [show len - k = len - (k + 1) + 1 from by omega, List.replicate_succ]
    obtain ⟨a1, c1, e1⟩ := (HP.out.data _ (List.getElem_mem dh)).form
    have hd := (HP.out.data _ (List.getElem_mem dh)).same dO.out
    have iZ := HS.out _ (List.getElem_mem dh)
    have q1 := dO.out.cellOf (HC.out k dh).1 id
    have q2 := dO.out.cellOf (HC.out k dh).2 id
    rw [e1] at q2 hd
    have HD := (show Hid (Rd .u8 wr _ ps[k].bs) from hd)
    have dR : len = (qs ++ List.replicate (len - k) TK).length := by simp [gg.out]; omega
    have eU := (show Hid (len = (qs ++ List.replicate (len - k) TK).length) from dR)
    clear e1 hd dR
    go_wp2_with fail
    refine (WO _ _ ps[k].bs _ iZ HD.out).mono ?_
    rintro e w2 ⟨g, rfl, hg, ho, aN⟩
    have eF := hid (HOr.out.same aN)
    have r1 := eF.out.sec eU.out k (by have := eU.out; omega)
    have r2 := eF.out.val eU.out k (by have := eU.out; omega)
    have r3 := eF.out.frozen eU.out (k * 2)
    have r4 := eF.out.frozen eU.out (k * 2 + 1)
    have aY : Hid (Same w w2) := dO.out.trans aN
    have fy := (show Hid (Own 0 5 .u8 w2 _ ps[k].bs) from ho)
    have Jz : w.heap.size ≤ g := Nat.le_trans dO.out.size hg
    have HG : Hid (wr.heap.size ≤ g) := hg
    clear ho aN hg q1 q2
    go_wp2
    go_roundw
    case rel =>
     have ho := eF.out
     rw [xo] at ho
     have hq := gg.out
     have CY := ho.setBoth (by simp [hq]; omega) ps[k].sec _ ps[k].bs (k * 2) (by rw [hq]) fy.out (fun b hb hf => by
      have h1 : b = g := by simpa [Value.ownBlock] using hb.symm
      have h2 : UE (.slice (some ⟨w.heap.size, 0, none⟩) len len) (qs ++ List.replicate (len - k) TK) b := by rw [xo]; exact hf
      have h3 := (HOr.out.lt b h2).2
      have h4 := HG.out
      omega)
     refine ⟨k + 1, qs ++ [⟨ps[k].sec, .slice (some ⟨g, 0, none⟩) ps[k].bs.length ps[k].bs.length, ps[k].bs⟩], by omega, by go_num, by simp [hq], ?_, ?_, ?_, ?_⟩
     ·have h1 := HQ.out
      unfold Hid
      rw [List.take_succ_eq_append_getElem dh]
      simp only [Rh, List.map_append] at h1 ⊢
      rw [h1]; rfl
     ·rintro b ⟨p, hp, hb⟩
      rcases List.mem_append.1 hp with hp | hp
      ·exact HF.out b ⟨p, hp, hb⟩
      ·simp at hp
       subst hp
       simp [Value.ownBlock] at hb
       omega
     ·rw [List.append_assoc]
      exact CY
     ·exact Kept.setCell (p := ⟨w.heap.size, k * 2 + 1, none⟩) (Kept.setCell (p := ⟨w.heap.size, k * 2, none⟩) aY.out (.inl (Nat.le_refl _)) _) (.inl (Nat.le_refl _)) _
    case measure => simp [intOf]; omega
   ·go_wp2
    go_ret
    obtain rfl : k = len := by omega
    have h := HOr.out
    have h2 := HL.out
    have h3 := HQ.out
    rw [Nat.sub_self, List.replicate_zero, List.append_nil] at h
    rw [← h2, List.take_length] at h3
    refine ⟨w.heap.size, qs, rfl, h3, fun b hb => ?_, h, dO.out⟩
    rcases hb with hb | hb
    ·simp [Value.ownBlock] at hb; omega
    ·exact HF.out b hb
theorem Vn (dv pv : Value) (dur : List Int) (ps : List PW) (w : World) (hd : dur.length ≤ 1099511627776) (hn : ps.length ≤ 1073741824) (hs : ∀ p ∈ ps, p.bs.length ≤ 1099511627776) (hv : RdD w dv pv dur ps) :
  Calls Tryz.prog 6 #[.agg #[dv, pv]] w fun e w' => ∃ g g' qs, e = .returned (.agg #[.slice (some ⟨g, 0, none⟩) dur.length dur.length, .slice (some ⟨g', 0, none⟩) ps.length ps.length]) ∧ Rh qs = Rh ps ∧
   (∀ b, Vu (.slice (some ⟨g, 0, none⟩) dur.length dur.length) (.slice (some ⟨g', 0, none⟩) ps.length ps.length) qs b → w.heap.size ≤ b) ∧
   OwnD 0 76 5 w' (.slice (some ⟨g, 0, none⟩) dur.length dur.length) (.slice (some ⟨g', 0, none⟩) ps.length ps.length) dur qs ∧ Same w w' := by
 obtain ⟨a1, c1, rfl⟩ := hv.dur.form
 obtain ⟨a2, c2, rfl⟩ := hv.pend.form
 have HV := (show Hid (RdD w _ _ dur ps) from hv)
 have HS : Hid (∀ p ∈ ps, p.bs.length ≤ 1099511627776) := hs
 clear hv hs
 go_enter Tryz.func6, Tryz.ntmps6
 go_wp2_with fail
 refine (Xy _ dur _ hd (HV.out.dur.same (((kZ0.alloc _).alloc _).alloc _))).mono ?_
 rintro e w1 ⟨g, rfl, hg, ho, hk⟩
 simp only [World.size_alloc] at hg
 have b0 := (((FBox.new w (.slice a1 dur.length c1) (.slice a2 ps.length c2) 25).next _).next _).same hk
 have b1 := ((FBox.new (w.alloc (.cells #[.slice a1 dur.length c1, .slice a2 ps.length c2] 25)) (.slice none 0 0) (.slice none 0 0) 33).next _).same hk
 have b2 := (FBox.new ((w.alloc (.cells #[.slice a1 dur.length c1, .slice a2 ps.length c2] 25)).alloc (.cells #[.slice none 0 0, .slice none 0 0] 33)) (.slice none 0 0) (.slice none 0 0) 33).same hk
 simp only [World.size_alloc] at b1 b2
 have HO := (show Hid (Own 0 5 .u8 w1 _ dur) from ho)
 have HK : Hid (Same w w1) := (((kZ0.alloc _).alloc _).alloc _).trans hk
 have eT : w.heap.size + 1 + 1 < w1.heap.size := b2.lt
 have bf : Hid (FBox w1 (w.heap.size + 1) (.slice none 0 0) (.slice none 0 0)) := b1
 have cm : Hid (FBox w1 (w.heap.size + 1 + 1) (.slice none 0 0) (.slice none 0 0)) := b2
 obtain ⟨o1, o2, _, _⟩ := b0
 obtain ⟨p1, p2, p3, p4⟩ := b1
 obtain ⟨q1, q2, q3, q4⟩ := b2
 clear ho hk
 go_wp2_with fail
 have F0 : Same w (w1.setCell ⟨w.heap.size + 1 + 1, 0, none⟩ (.slice (some ⟨g, 0, none⟩) dur.length dur.length)) := HK.out.setCell (.inl (by simp; omega)) _
 refine (Wt _ ps _ hn HS.out (HV.out.pend.same F0)).mono ?_
 rintro e w2 ⟨g', qs, rfl, hq, hf, BP, aN⟩
 have b1 := (bf.out.other ⟨w.heap.size + 1 + 1, 0, none⟩ (by simp) (.slice (some ⟨g, 0, none⟩) dur.length dur.length)).same aN
 have b2 := (cm.out.set0 (.slice (some ⟨g, 0, none⟩) dur.length dur.length)).same aN
 have m3 := (HO.out.kept (Kept.setCell (Kept.refl (fun b => b = w.heap.size + 1 + 1) w1) (p := ⟨w.heap.size + 1 + 1, 0, none⟩) (.inr rfl) (.slice (some ⟨g, 0, none⟩) dur.length dur.length)) (fun b hb e => by simp [Value.ownBlock] at hb; omega)).same aN
 have bH := (HO.out.lt g rfl).2
 have wO : Hid (OwnD 0 76 5 w2 (.slice (some ⟨g, 0, none⟩) dur.length dur.length) (.slice (some ⟨g', 0, none⟩) ps.length ps.length) dur qs) :=
  ⟨m3, BP, fun b hb e => by have h1 := hf b hb; simp [Value.ownBlock] at e; simp [World.setCell] at h1; omega⟩
 have HF : Hid (∀ b, Vu (.slice (some ⟨g, 0, none⟩) dur.length dur.length) (.slice (some ⟨g', 0, none⟩) ps.length ps.length) qs b → w.heap.size + 1 + 1 < b) := fun b hb => by
  rcases hb with hb | hb
  ·simp [Value.ownBlock] at hb; omega
  ·have h1 := hf b hb; simp [World.setCell] at h1; omega
 have HQ : Hid (Rh qs = Rh ps) := hq
 have aY : Hid (Same w w2) := F0.trans aN
 clear p1 p2 p3 p4 q1 q2 q3 q4 o1 o2 m3 BP hf hq aN F0 bH
 obtain ⟨p1, p2, p3, p4⟩ := b1
 obtain ⟨q1, q2, q3, q4⟩ := b2
 go_wp2
 refine bodyPost_ret (v := .agg #[.slice (some ⟨g, 0, none⟩) dur.length dur.length, .slice (some ⟨g', 0, none⟩) ps.length ps.length]) (by simp [results, Tryz.results6, go_sem, p1, p2]) rfl ⟨g, g', qs, rfl, HQ.out, fun b hb => by have := HF.out b hb; omega, ?_, ?_⟩
 ·refine wO.out.kept (R := fun b => b = w.heap.size + 1 ∨ b = w.heap.size + 1 + 1) ?_ (fun b hb e => by have := HF.out b hb; omega)
  exact (Kept.setTwo (Kept.setCell kZ0 (p := ⟨w.heap.size + 1 + 1, 1, none⟩) (.inr (.inr rfl)) _) (.inr (.inl rfl)) _ _)
 ·exact (aY.out.setCell (p := ⟨w.heap.size + 1 + 1, 1, none⟩) (.inl (by simp; omega)) _).setTwo (.inl (by simp)) _ _
def Says (e : Ending) (P : Prop) : Prop := ∃ B : Bool, e = .returned (.bool B) ∧ (B = true ↔ P)
theorem VP {P : Prop} (h : P) : Says (.returned (.bool true)) P := ⟨true, rfl, fun _ => h, fun _ => rfl⟩
theorem SH {P : Prop} (h : ¬ P) : Says (.returned (.bool false)) P := ⟨false, rfl, fun h => by simp at h, fun hp => absurd hp h⟩
def Vo (n : Nat) (p : Int × List Int) : Prop := 0 ≤ p.1 ∧ p.1 < n ∧ p.2.length = 512
def SC (len m : Nat) : Prop := len % 512 = 0 ∧ 1 ≤ len / 512 ∧ len / 512 ≤ 1024 ∧ m ≤ 8192
def Valid (len : Nat) (ds : List (Int × List Int)) : Prop := SC len ds.length ∧ ∀ p ∈ ds, Vo (len / 512) p
theorem XG {len : Nat} {ps : List PW} {k : Nat} (h : k < ps.length) (hp : ¬ Vo (len / 512) (ps[k].sec, ps[k].bs)) : ¬ Valid len (Rh ps) :=
 fun hv => hp (hv.2 _ (List.mem_map.2 ⟨ps[k], List.getElem_mem h, rfl⟩))
theorem Wh {len : Nat} {ps : List PW} (hp : ¬ SC len ps.length) : ¬ Valid len (Rh ps) :=
 fun hv => hp (by have := hv.1; rwa [RN] at this)
theorem VQ {len : Nat} {ps : List PW} (hh : SC len ps.length) (h : ∀ k (hk : k < ps.length), Vo (len / 512) (ps[k].sec, ps[k].bs)) : Valid len (Rh ps) := by
 refine ⟨by rw [RN]; exact hh, fun p hp => ?_⟩
 obtain ⟨q, hq, rfl⟩ := List.mem_map.1 hp
 obtain ⟨k, hk, rfl⟩ := List.getElem_of_mem hq
 exact h k hk
theorem SY (a : Option Addr) (n c : Nat) (a2 : Option Addr) (n2 c2 : Nat) (w : World) (hn : n ≤ maxLen) :
  Calls Tryz.prog 37 #[.agg #[.slice a n c, .slice a2 n2 c2]] w fun e w' => e = .returned (.int .i64 (n / 512 : Nat)) ∧ w' = w.alloc (.cells #[.slice a n c, .slice a2 n2 c2] 33) := by
 unfold maxLen at hn
 go_enter Tryz.func37, Tryz.ntmps37
 go_wp2
 go_ret
 exact ⟨Ua (by omega), rfl⟩
theorem R5 (a : Option Addr) (n c : Nat) (a2 : Option Addr) (n2 c2 : Nat) (w : World) (hn : n ≤ maxLen) :
  Calls Tryz.prog 45 #[.agg #[.slice a n c, .slice a2 n2 c2]] w fun e w' => e = .returned (.int .i64 (n / 512 : Nat)) ∧ w' = w.alloc (.cells #[.slice a n c, .slice a2 n2 c2] 33) := by
 unfold maxLen at hn
 go_enter Tryz.func45, Tryz.ntmps45
 go_wp2
 go_ret
 exact ⟨Ua (by omega), rfl⟩
theorem Yx (a : Option Addr) (n c : Nat) (a2 : Option Addr) (n2 c2 : Nat) (w : World) (hn : n ≤ maxLen) (jZ : n2 ≤ maxLen) (h : ¬ SC n n2) :
  Calls Tryz.prog 36 #[.agg #[.slice a n c, .slice a2 n2 c2]] w fun e w' => e = .returned (.bool false) ∧ Same w w' := by
 have hm := hn
 have CP := jZ
 unfold maxLen at hn jZ
 by_cases h1 : n % 512 = 0
 ·have t1 : ((n : Int) % 512 != 0) = false := by simp; omega
  by_cases h2 : n / 512 < 1
  ·have t2 : (n : Int) / 512 < 1 := by omega
   go_enter Tryz.func36, Tryz.ntmps36
   go_wp2_with (go_at_call 37; refine (SY _ _ _ _ _ _ _ hm).mono ?_; rintro e w' ⟨rfl, rfl⟩)
   go_ret
   exact ⟨rfl, (kZ0.alloc _).alloc _⟩
  ·have t2 : ¬ (n : Int) / 512 < 1 := by omega
   by_cases h3 : 1024 < n / 512
   ·have t3 : 1024 < (n : Int) / 512 := by omega
    go_enter Tryz.func36, Tryz.ntmps36
    go_wp2_with (go_at_call 37; refine (SY _ _ _ _ _ _ _ hm).mono ?_; rintro e w' ⟨rfl, rfl⟩)
    go_ret
    exact ⟨rfl, (kZ0.alloc _).alloc _⟩
   ·have t3 : ¬ 1024 < (n : Int) / 512 := by omega
    have h4 : 8192 < n2 := by unfold SC at h; omega
    have t4 : 8192 < (n2 : Int) := by omega
    clear h
    go_enter Tryz.func36, Tryz.ntmps36
    go_wp2_with (go_at_call 37; refine (SY _ _ _ _ _ _ _ hm).mono ?_; rintro e w' ⟨rfl, rfl⟩)
    go_ret
    exact ⟨rfl, (kZ0.alloc _).alloc _⟩
 ·have t1 : ((n : Int) % 512 != 0) = true := by simp; omega
  go_enter Tryz.func36, Tryz.ntmps36
  go_wp2_with (go_at_call 37; refine (SY _ _ _ _ _ _ _ hm).mono ?_; rintro e w' ⟨rfl, rfl⟩)
  go_ret
  exact ⟨rfl, (kZ0.alloc _).alloc _⟩
theorem Yy (a : Option Addr) (n c : Nat) (v : Value) (ps : List PW) (w : World) (hn : n ≤ maxLen) (hp : RdP w v ps) (h : SC n ps.length) :
  Calls Tryz.prog 36 #[.agg #[.slice a n c, v]] w fun e w' => Says e (Valid n (Rh ps)) ∧ Same w w' := by
 have hm := hn
 have jZ := hp.len
 unfold maxLen at hn jZ
 obtain ⟨h1, h2, h3, h4⟩ := id h
 have t1 : ((n : Int) % 512 != 0) = false := by simp; omega
 have t2 : ¬ (n : Int) / 512 < 1 := by omega
 have t3 : ¬ 1024 < (n : Int) / 512 := by omega
 have t4 : ¬ 8192 < (ps.length : Int) := by omega
 have HH : Hid (SC n ps.length) := h
 clear h h1 h2 h3 h4
 rcases hp.row with ⟨rfl, a2, c2, rfl⟩ | ⟨b, off, c2, rfl, hc⟩
 ·have HV : Hid (Valid n (Rh [])) := VQ HH.out (fun k hk => by simp at hk)
  clear hp jZ t4
  go_enter Tryz.func36, Tryz.ntmps36
  go_wp2_with (go_at_call 37; refine (SY _ _ _ _ _ _ _ hm).mono ?_; rintro e w' ⟨rfl, rfl⟩)
  refine wp_loop_rounds 1 ?_
  rw [rounds_succ]
  go_wp2
  go_ret
  exact ⟨VP HV.out, (kZ0.alloc _).alloc _⟩
 ·have HP : Hid (RdP w (.slice (some ⟨b, off, none⟩) ps.length c2) ps) := hp
  have HC : Hid (∀ i (h : i < ps.length), w.cell? ⟨b, off + i * 2, none⟩ = some (.int .i64 ps[i].sec) ∧ w.cell? ⟨b, off + i * 2 + 1, none⟩ = some ps[i].v) := hc
  clear hp hc
  generalize hl : ps.length = len at jZ t4 HP HH ⊢
  have HL : Hid (ps.length = len) := hl
  clear hl
  go_enter Tryz.func36, Tryz.ntmps36
  go_wp2_with (go_at_call 37; refine (SY _ _ _ _ _ _ _ hm).mono ?_; rintro e w' ⟨rfl, rfl⟩)
  go_loop [4] (fun i => ∃ k : Nat, k ≤ len ∧ i = .int .i64 k ∧ Hid (∀ j (hj : j < ps.length), j < k → Vo (n / 512) (ps[j].sec, ps[j].bs))) (fun i => len - (intOf i).toNat)
  case atStart => exact ⟨0, Nat.zero_le _, rfl, fun j _ h => by omega⟩
  case round =>
   obtain ⟨k, hk, rfl, HV⟩ := hrel
   by_cases bH : k < len
   ·have dh : k < ps.length := by rw [HL.out]; exact bH
    obtain ⟨a1, c1, e1⟩ := (HP.out.data _ (List.getElem_mem dh)).form
    have iZ := (HP.out.data _ (List.getElem_mem dh)).1
    unfold maxLen at iZ
    have OS : b < w.heap.size := World.block_lt_of_cell? w ⟨b, off + k * 2, none⟩ (HC.out k dh).1
    have q1 := (HC.out k dh).1
    have q2 := (HC.out k dh).2
    rw [e1] at q2
    clear e1
    have HN : Hid (¬ Vo (n / 512) (ps[k].sec, ps[k].bs) → ¬ Valid n (Rh ps)) := fun h => XG dh h
    have HE : Hid (Vo (n / 512) (ps[k].sec, ps[k].bs) ↔ 0 ≤ ps[k].sec ∧ ps[k].sec < (n / 512 : Nat) ∧ ps[k].bs.length = 512) := Iff.rfl
    generalize iG : ps[k].sec = sec at q1 HN HE
    generalize wR : ps[k].bs.length = bl at q2 iZ HE
    have HS : Hid (ps[k].sec = sec) := iG
    clear iG wR
    by_cases s1 : sec < 0
    ·go_wp2
     go_ret
     exact ⟨SH (HN.out (fun hv => by have := HE.out.1 hv; omega)), (kZ0.alloc _).alloc _⟩
    ·by_cases s2 : (n : Int) / 512 ≤ sec
     ·go_wp2
      go_ret
      exact ⟨SH (HN.out (fun hv => by have := HE.out.1 hv; omega)), (kZ0.alloc _).alloc _⟩
     ·by_cases s3 : bl = 512
      ·have s4 : ((bl : Int) != 512) = false := by simp; omega
       go_wp2
       go_round
       case rel =>
        refine ⟨k + 1, by omega, by go_num, fun j hj J6 => ?_⟩
        by_cases e : j = k
        ·subst e
         rw [HS.out]
         exact HE.out.2 ⟨by omega, by omega, s3⟩
        ·exact HV.out j hj (by omega)
       case measure => simp [intOf]; omega
      ·have s4 : ((bl : Int) != 512) = true := by simp; omega
       go_wp2
       go_ret
       exact ⟨SH (HN.out (fun hv => by have := HE.out.1 hv; omega)), (kZ0.alloc _).alloc _⟩
   ·go_wp2
    go_ret
    obtain rfl : k = len := by omega
    have h2 := HL.out
    have hv := VQ (ps := ps) (by rw [h2]; exact HH.out) (fun j hj => HV.out j hj (by omega))
    exact ⟨VP hv, (kZ0.alloc _).alloc _⟩
theorem Yz (a : Option Addr) (n c : Nat) (a2 : Option Addr) (n2 c2 : Nat) (w : World) (hn : n ≤ maxLen) (jZ : n2 ≤ maxLen) (h : ¬ SC n n2) :
  Calls Tryz.prog 44 #[.agg #[.slice a n c, .slice a2 n2 c2]] w fun e w' => e = .returned (.bool false) ∧ Same w w' := by
 have hm := hn
 unfold maxLen at hn jZ
 by_cases h2 : n / 512 < 1
 ·have t2 : (n : Int) / 512 < 1 := by omega
  go_enter Tryz.func44, Tryz.ntmps44
  go_wp2_with (go_at_call 45; refine (R5 _ _ _ _ _ _ _ hm).mono ?_; rintro e w' ⟨rfl, rfl⟩)
  go_ret
  exact ⟨rfl, (kZ0.alloc _).alloc _⟩
 ·have t2 : ¬ (n : Int) / 512 < 1 := by omega
  by_cases h3 : 1024 < n / 512
  ·have t3 : 1024 < (n : Int) / 512 := by omega
   go_enter Tryz.func44, Tryz.ntmps44
   go_wp2_with (go_at_call 45; refine (R5 _ _ _ _ _ _ _ hm).mono ?_; rintro e w' ⟨rfl, rfl⟩)
   go_ret
   exact ⟨rfl, (kZ0.alloc _).alloc _⟩
  ·have t3 : ¬ 1024 < (n : Int) / 512 := by omega
   by_cases h1 : n % 512 = 0
   ·have t1 : ((n : Int) % 512 != 0) = false := by simp; omega
    have h4 : 8192 < n2 := by unfold SC at h; omega
    have t4 : 8192 < (n2 : Int) := by omega
    clear h
    go_enter Tryz.func44, Tryz.ntmps44
    go_wp2_with (go_at_call 45; refine (R5 _ _ _ _ _ _ _ hm).mono ?_; rintro e w' ⟨rfl, rfl⟩)
    go_ret
    exact ⟨rfl, (kZ0.alloc _).alloc _⟩
   ·have t1 : ((n : Int) % 512 != 0) = true := by simp; omega
    go_enter Tryz.func44, Tryz.ntmps44
    go_wp2_with (go_at_call 45; refine (R5 _ _ _ _ _ _ _ hm).mono ?_; rintro e w' ⟨rfl, rfl⟩)
    go_ret
    exact ⟨rfl, (kZ0.alloc _).alloc _⟩
theorem YA (a : Option Addr) (n c : Nat) (v : Value) (ps : List PW) (w : World) (hn : n ≤ maxLen) (hp : RdP w v ps) (h : SC n ps.length) :
  Calls Tryz.prog 44 #[.agg #[.slice a n c, v]] w fun e w' => Says e (Valid n (Rh ps)) ∧ Same w w' := by
 have hm := hn
 have jZ := hp.len
 unfold maxLen at hn jZ
 obtain ⟨h1, h2, h3, h4⟩ := id h
 have t1 : ((n : Int) % 512 != 0) = false := by simp; omega
 have t2 : ¬ (n : Int) / 512 < 1 := by omega
 have t3 : ¬ 1024 < (n : Int) / 512 := by omega
 have t4 : ¬ 8192 < (ps.length : Int) := by omega
 have HH : Hid (SC n ps.length) := h
 clear h h1 h2 h3 h4
 rcases hp.row with ⟨rfl, a2, c2, rfl⟩ | ⟨b, off, c2, rfl, hc⟩
 ·have HV : Hid (Valid n (Rh [])) := VQ HH.out (fun k hk => by simp at hk)
  clear hp jZ t4
  go_enter Tryz.func44, Tryz.ntmps44
  go_wp2_with (go_at_call 45; refine (R5 _ _ _ _ _ _ _ hm).mono ?_; rintro e w' ⟨rfl, rfl⟩)
  refine wp_loop_rounds 1 ?_
  rw [rounds_succ]
  go_wp2
  go_ret
  exact ⟨VP HV.out, (kZ0.alloc _).alloc _⟩
 ·have HP : Hid (RdP w (.slice (some ⟨b, off, none⟩) ps.length c2) ps) := hp
  have HC : Hid (∀ i (h : i < ps.length), w.cell? ⟨b, off + i * 2, none⟩ = some (.int .i64 ps[i].sec) ∧ w.cell? ⟨b, off + i * 2 + 1, none⟩ = some ps[i].v) := hc
  clear hp hc
  generalize hl : ps.length = len at jZ t4 HP HH ⊢
  have HL : Hid (ps.length = len) := hl
  clear hl
  go_enter Tryz.func44, Tryz.ntmps44
  go_wp2_with (go_at_call 45; refine (R5 _ _ _ _ _ _ _ hm).mono ?_; rintro e w' ⟨rfl, rfl⟩)
  go_loopw [28] (fun i wr => ∃ k : Nat, k ≤ len ∧ i = .int .i64 k ∧ Hid (∀ j (hj : j < ps.length), j < k → Vo (n / 512) (ps[j].sec, ps[j].bs)) ∧ Hid (Same w wr)) (fun i _ => len - (intOf i).toNat)
  case atStart => exact ⟨0, Nat.zero_le _, rfl, fun j _ h => by omega, (kZ0.alloc _).alloc _⟩
  case round =>
   obtain ⟨k, hk, rfl, HV, HK⟩ := hrel
   by_cases bH : k < len
   ·have dh : k < ps.length := by rw [HL.out]; exact bH
    obtain ⟨a1, c1, e1⟩ := (HP.out.data _ (List.getElem_mem dh)).form
    have iZ := (HP.out.data _ (List.getElem_mem dh)).1
    unfold maxLen at iZ
    have q1 := HK.out.cellOf (HC.out k dh).1 id
    have q2 := HK.out.cellOf (HC.out k dh).2 id
    rw [e1] at q2
    clear e1
    have HN : Hid (¬ Vo (n / 512) (ps[k].sec, ps[k].bs) → ¬ Valid n (Rh ps)) := fun h => XG dh h
    have HE : Hid (Vo (n / 512) (ps[k].sec, ps[k].bs) ↔ 0 ≤ ps[k].sec ∧ ps[k].sec < (n / 512 : Nat) ∧ ps[k].bs.length = 512) := Iff.rfl
    generalize iG : ps[k].sec = sec at q1 HN HE
    generalize wR : ps[k].bs.length = bl at q2 iZ HE
    have HS : Hid (ps[k].sec = sec) := iG
    clear iG wR
    by_cases s1 : sec < 0
    ·go_wp2
     go_ret
     exact ⟨SH (HN.out (fun hv => by have := HE.out.1 hv; omega)), HK.out.alloc _⟩
    ·by_cases s2 : (n : Int) / 512 ≤ sec
     ·go_wp2
      go_ret
      exact ⟨SH (HN.out (fun hv => by have := HE.out.1 hv; omega)), HK.out.alloc _⟩
     ·by_cases s3 : bl = 512
      ·have s4 : ((bl : Int) != 512) = false := by simp; omega
       go_wp2
       go_roundw
       case rel =>
        refine ⟨k + 1, by omega, by go_num, fun j hj J6 => ?_, HK.out.alloc _⟩
        by_cases e : j = k
        ·subst e
         rw [HS.out]
         exact HE.out.2 ⟨by omega, by omega, s3⟩
        ·exact HV.out j hj (by omega)
       case measure => simp [intOf]; omega
      ·have s4 : ((bl : Int) != 512) = true := by simp; omega
       go_wp2
       go_ret
       exact ⟨SH (HN.out (fun hv => by have := HE.out.1 hv; omega)), HK.out.alloc _⟩
   ·go_wp2
    go_ret
    obtain rfl : k = len := by omega
    have h2 := HL.out
    have hv := VQ (ps := ps) (by rw [h2]; exact HH.out) (fun j hj => HV.out j hj (by omega))
    exact ⟨VP hv, HK.out⟩
theorem Y0 (dv pv : Value) (dur : List Int) (ps : List PW) (w : World) (hp : RdD w dv pv dur ps) :
  Calls Tryz.prog 36 #[.agg #[dv, pv]] w fun e w' => Says e (Valid dur.length (Rh ps)) ∧ Same w w' := by
 obtain ⟨a1, c1, rfl⟩ := hp.dur.form
 by_cases h : SC dur.length ps.length
 ·exact Yy a1 dur.length c1 pv ps w hp.dur.1 hp.pend h
 ·obtain ⟨a2, c2, rfl⟩ := hp.pend.form
  exact (Yx a1 _ c1 a2 _ c2 w hp.dur.1 hp.pend.len h).mono fun e w' ⟨he, hk⟩ => ⟨by rw [he]; exact SH (Wh h), hk⟩
theorem Za (dv pv : Value) (dur : List Int) (ps : List PW) (w : World) (hp : RdD w dv pv dur ps) :
  Calls Tryz.prog 44 #[.agg #[dv, pv]] w fun e w' => Says e (Valid dur.length (Rh ps)) ∧ Same w w' := by
 obtain ⟨a1, c1, rfl⟩ := hp.dur.form
 by_cases h : SC dur.length ps.length
 ·exact YA a1 dur.length c1 pv ps w hp.dur.1 hp.pend h
 ·obtain ⟨a2, c2, rfl⟩ := hp.pend.form
  exact (Yz a1 _ c1 a2 _ c2 w hp.dur.1 hp.pend.len h).mono fun e w' ⟨he, hk⟩ => ⟨by rw [he]; exact SH (Wh h), hk⟩
def Tt (s : Int) : List (Int × List Int) → Option (List Int)
 | [] => none
 | p :: ps => match Tt s ps with
  | some bs => some bs
  | none => if p.1 = s then some p.2 else none
theorem jb9 (s : Int) (ds : List (Int × List Int)) (h : ∀ p ∈ ds, p.1 ≠ s) : Tt s ds = none := by
 induction ds with
 | nil => rfl
 | cons p ds ih => simp [Tt, ih (fun q hq => h q (List.mem_cons_of_mem _ hq)), h p (List.mem_cons_self ..)]
theorem UZ (s : Int) (ds es : List (Int × List Int)) (h : ∀ p ∈ es, p.1 ≠ s) : Tt s (ds ++ es) = Tt s ds := by
 induction ds with
 | nil => simpa [Tt] using jb9 s es h
 | cons p ds ih => simp [Tt, ih]
theorem YB (s : Int) (ds : List (Int × List Int)) (bs : List Int) : Tt s (ds ++ [(s, bs)]) = some bs := by
 induction ds with
 | nil => simp [Tt]
 | cons p ds ih => simp [Tt, ih]
def Uz (s : Int) (dur : List Int) (ds : List (Int × List Int)) : List Int := (Tt s ds).getD ((dur.drop (s.toNat * 512)).take 512)
def IsRead (s : Int) (dur : List Int) (ds : List (Int × List Int)) (bs : List Int) : Prop :=
 (Valid dur.length ds ∧ 0 ≤ s ∧ s < (dur.length / 512 : Nat) ∧ bs = Uz s dur ds) ∨ (¬ (Valid dur.length ds ∧ 0 ≤ s ∧ s < (dur.length / 512 : Nat)) ∧ bs = [])
theorem IsRead.one {s : Int} {dur : List Int} {ds : List (Int × List Int)} {bs cs : List Int} (h : IsRead s dur ds bs) (k : IsRead s dur ds cs) : bs = cs := by
 rcases h with ⟨h1, h2, h3, rfl⟩ | ⟨h, rfl⟩ <;> rcases k with ⟨k1, k2, k3, rfl⟩ | ⟨k, rfl⟩
 ·rfl
 ·exact absurd ⟨h1, h2, h3⟩ k
 ·exact absurd ⟨k1, k2, k3⟩ h
 ·rfl
theorem ZO (s : Int) (ds : List (Int × List Int)) (bs : List Int) (h : Tt s ds = some bs) : ∃ p ∈ ds, p.2 = bs := by
 induction ds with
 | nil => simp [Tt] at h
 | cons p ds ih =>
  unfold Tt at h
  split at h
  ·next cs hc =>
   obtain ⟨q, hq, e⟩ := ih (by rw [hc, ← h])
   exact ⟨q, List.mem_cons_of_mem _ hq, e⟩
  ·split at h
   ·simp at h
    exact ⟨p, List.mem_cons_self .., h⟩
   ·simp at h
theorem IsRead.len {s : Int} {dur : List Int} {ds : List (Int × List Int)} {bs : List Int} (h : IsRead s dur ds bs) : bs.length ≤ 512 := by
 rcases h with ⟨hv, _, _, rfl⟩ | ⟨_, rfl⟩
 ·unfold Uz
  cases hl : Tt s ds with
  | none => simp; omega
  | some cs =>
   obtain ⟨p, hp, rfl⟩ := ZO s ds cs hl
   have := (hv.2 p hp).2.2
   simp [this]
 ·simp
theorem Own.take {base : Nat} {e : TypeId} {k : IntKind} {w : World} {g n cap : Nat} {bs : List Int} (h : Own base e k w (.slice (some ⟨g, 0, none⟩) n cap) bs) (m : Nat) (hm : m ≤ bs.length) : Own base e k w (.slice (some ⟨g, 0, none⟩) m cap) (bs.take m) := by
 unfold Own at *
 rcases h with ⟨h1, ⟨h2, _⟩ | ⟨g', zw, cur, hv, hb, hg, hn, hc, hs, ht⟩⟩
 ·cases h2
 ·injection hv with e1 e2 e3
  injection e1 with e1
  injection e1 with e1
  subst e1 e3
  have hl : (bs.take m).length = m := by simp; omega
  refine ⟨by simp [vals], .inr ⟨g, cap, cur, by rw [hl], hb, hg, by omega, hc, hs, ?_⟩⟩
  have e4 : vals k (bs.take m) = (vals k bs).take m := by simp [vals, List.map_take]
  rw [hl, e4, ← ht, List.take_take]
  congr 1
  omega
theorem jbb {s : Int} {dur : List Int} {ds : List (Int × List Int)} (hv : Valid dur.length ds) (h0 : 0 ≤ s) (h1 : s < (dur.length / 512 : Nat)) : (Uz s dur ds).length = 512 := by
 unfold Uz
 cases hl : Tt s ds with
 | none => simp; omega
 | some cs =>
  obtain ⟨p, hp, rfl⟩ := ZO s ds cs hl
  have := (hv.2 p hp).2.2
  simp [this]
def Room (len : Nat) (ds : List (Int × List Int)) (s : Int) : Prop := Valid len ds ∧ s + 2 ≤ (len / 512 : Nat)
theorem YC (dv pv : Value) (dur : List Int) (ps : List PW) (s : Int) (w : World) (hs : -1000 ≤ s ∧ s ≤ 1000) (hp : RdD w dv pv dur ps) :
  Calls Tryz.prog 16 #[.agg #[dv, pv], .int .i64 s] w fun e w' => Says e (Room dur.length (Rh ps) s) ∧ Same w w' := by
 obtain ⟨a1, c1, rfl⟩ := hp.dur.form
 obtain ⟨a2, c2, rfl⟩ := hp.pend.form
 have hm := hp.dur.1
 have Db := hm
 unfold maxLen at Db
 have b0 := Box.new w (.slice a1 dur.length c1) (.slice a2 ps.length c2) 33
 have hV := Y0 _ _ dur ps _ (hp.same (kZ0.alloc (.cells #[.slice a1 dur.length c1, .slice a2 ps.length c2] 33)))
 clear hp
 obtain ⟨nu, lv⟩ := hs
 go_enter Tryz.func16, Tryz.ntmps16
 go_wp2_with fail
 refine hV.mono ?_
 rintro e w1 ⟨⟨B, rfl, hB⟩, aH⟩
 obtain ⟨c0, OW⟩ := b0.same aH
 have aM : Hid (Same w w1) := (kZ0.alloc _).trans aH
 clear aH b0 hV
 cases B with
 | false =>
  have HN : Hid (¬ Valid dur.length (Rh ps)) := fun h => by have := hB.2 h; cases this
  clear hB
  go_wp2
  go_ret
  exact ⟨SH (fun h => HN.out h.1), aM.out⟩
 | true =>
  have HV : Hid (Valid dur.length (Rh ps)) := hB.1 rfl
  clear hB
  go_wp2_with (go_at_call 37; refine (SY _ _ _ _ _ _ _ hm).mono ?_; rintro e w2 ⟨rfl, aN⟩)
  go_ret
  subst aN
  refine ⟨?_, aM.out.alloc _⟩
  by_cases h : s + 2 ≤ (dur.length / 512 : Nat)
  ·exact ⟨true, by simp; omega, fun _ => ⟨HV.out, h⟩, fun _ => rfl⟩
  ·exact ⟨false, by simp; omega, fun h => (by cases h), fun h' => absurd h'.2 h⟩
theorem jaq (dv pv : Value) (dur : List Int) (ps : List PW) (s : Int) (w : World) (hp : RdD w dv pv dur ps) :
  Calls Tryz.prog 21 #[.agg #[dv, pv], .int .i64 s] w fun e w' => Says e ((16 ≤ s ∧ s ≤ 800) ∧ Room dur.length (Rh ps) s) ∧ Same w w' := by
 obtain ⟨a1, c1, rfl⟩ := hp.dur.form
 obtain ⟨a2, c2, rfl⟩ := hp.pend.form
 have hm := hp.dur.1
 have Db := hm
 unfold maxLen at Db
 have b0 := Box.new w (.slice a1 dur.length c1) (.slice a2 ps.length c2) 33
 have h1 := fun wx => V9 s wx
 have hV := fun wx (hk : Same w wx) => Za _ _ dur ps wx (hp.same hk)
 clear hp
 by_cases hs : 16 ≤ s ∧ s ≤ 800
 ·rw [WL hs] at h1
  obtain ⟨nu, lv⟩ := hs
  go_enter Tryz.func21, Tryz.ntmps21
  go_wp2_with (go_at_call 43; refine (h1 _).mono ?_; rintro e w0 ⟨rfl, du⟩; obtain ⟨c0, OW⟩ := b0.same du; have aJ := (show Hid (Same w w0) from (kZ0.alloc _).trans du))
  refine (hV _ aJ.out).mono ?_
  rintro e w1 ⟨⟨B, rfl, hB⟩, aH⟩
  obtain ⟨d0, d1⟩ := (b0.same du).same aH
  have aM : Hid (Same w w1) := aJ.out.trans aH
  clear aH b0 hV du
  cases B with
  | false =>
   have HN : Hid (¬ Valid dur.length (Rh ps)) := fun h => by have := hB.2 h; cases this
   clear hB
   go_wp2
   go_ret
   exact ⟨SH (fun h => HN.out h.2.1), aM.out⟩
  | true =>
   have HV : Hid (Valid dur.length (Rh ps)) := hB.1 rfl
   clear hB
   go_wp2_with (go_at_call 45; refine (R5 _ _ _ _ _ _ _ hm).mono ?_; rintro e w2 ⟨rfl, aN⟩)
   go_ret
   subst aN
   refine ⟨?_, aM.out.alloc _⟩
   by_cases h : s + 2 ≤ (dur.length / 512 : Nat)
   ·exact ⟨true, by simp; omega, fun _ => ⟨⟨nu, lv⟩, HV.out, h⟩, fun _ => rfl⟩
   ·exact ⟨false, by simp; omega, fun h => (by cases h), fun h' => absurd h'.2.2 h⟩
 ·rw [VO hs] at h1
  go_enter Tryz.func21, Tryz.ntmps21
  go_wp2_with (go_at_call 43; refine (h1 _).mono ?_; rintro e w0 ⟨rfl, du⟩)
  go_ret
  exact ⟨SH (fun h => hs h.1), (kZ0.alloc _).trans du⟩
def putAt (dur : List Int) (lo : Nat) (bs : List Int) : List Int := dur.take lo ++ (bs ++ dur.drop (lo + bs.length))
theorem UA (dur : List Int) (lo : Nat) (bs : List Int) (h : lo + bs.length ≤ dur.length) : (putAt dur lo bs).length = dur.length := by simp [putAt]; omega
def Ta (i7 : Nat → Bool) (dur : List Int) (ds : List (Int × List Int)) : Nat → List Int
 | 0 => dur
 | k + 1 => if i7 k then putAt (Ta i7 dur ds k) ((ds.getD k (0, [])).1.toNat * 512) (ds.getD k (0, [])).2 else Ta i7 dur ds k
theorem UL (i7 : Nat → Bool) (dur : List Int) (ds : List (Int × List Int)) (hv : Valid dur.length ds) (k : Nat) (hk : k ≤ ds.length) : (Ta i7 dur ds k).length = dur.length := by
 induction k with
 | zero => rfl
 | succ k ih =>
  have Gn := ih (by omega)
  unfold Ta
  split
  ·have hm : ds.getD k (0, []) ∈ ds := by simp [List.getD, show k < ds.length from by omega]
   obtain ⟨h1, h2, h3⟩ := hv.2 _ hm
   have h4 := hv.1
   rw [UA _ _ _ (by rw [Gn, h3]; have := hv.1.1; omega)]
   exact Gn
  ·exact Gn
theorem jbc {α : Type} (L X : List α) (lo n : Nat) (h : lo + X.length ≤ n) (hn : n ≤ L.length) :
  (L.take lo ++ (X ++ L.drop (lo + X.length))).take n = (L.take n).take lo ++ (X ++ (L.take n).drop (lo + X.length)) := by
 have h1 : (L.take lo).length = lo := by rw [List.length_take]; omega
 rw [List.take_append, List.take_append, h1, List.take_of_length_le (by omega), List.take_of_length_le (l := X) (by omega), List.take_take, Nat.min_eq_left (by omega), List.drop_take]
 congr 3
 omega
section
variable {P : Program} {ct : Array Oper} {o : Oper} {a : Act} {w : World} {K : Act → World → Prop} {Q : Exit → Act → World → Prop} {E : Prop}
theorem Zb {base : Nat} {tb : TypeId} (j1 : o.guard = none) (d s : Operand) (T : TypeId) (ho : o.op = .call { callee := .builtin .copy, args := #[d, s], argTypes := #[T, T] })
  (hu : P.underlying T = some (.slice tb)) (gE : (P.info? tb).map (·.size) = some 1) (g lo n cap dc b off c : Nat) (dur bs : List Int)
  (aw : Own base tb .u8 w (.slice (some ⟨g, 0, none⟩) n cap) dur) (j7 : n = dur.length) (hd : a.eval d = .slice (some ⟨g, lo, none⟩) (n - lo) dc) (hs : a.eval s = .slice (some ⟨b, off, none⟩) bs.length c)
  (jH : ∀ i, i < bs.length → w.cell? ⟨b, off + i, none⟩ = some (.int .u8 (bs.getD i 0))) (oD : lo + bs.length ≤ dur.length)
  (h : ∀ w', Own base tb .u8 w' (.slice (some ⟨g, 0, none⟩) n cap) (putAt dur lo bs) → w.grownBy w' (some g) → K (a.put o.dst (goInt bs.length)) w') :
  if Region.wanted o (yielded ct a.tmps) = true then Oper.wp P o a w K Q else E := by
 have hw : Region.wanted o (yielded ct a.tmps) = true := by simp [Region.wanted, j1]
 rw [if_pos hw]
 subst j7
 obtain ⟨dR, jG⟩ := aw
 rcases jG with ⟨h', _⟩ | ⟨g', zw, cur, h', hb, hg, FQ, jY, hC, sG⟩
 ·simp at h'
 ·simp only [Value.slice.injEq, Option.some.injEq, Addr.mk.injEq, and_true, true_and] at h'
  obtain ⟨rfl, rfl⟩ := h'
  simp only [Nat.mul_one] at hC sG
  have qT : (vals .u8 bs).length = bs.length := Rb _ _
  have iH := run_copy_row (P := P) w T T o.type tb g lo (dur.length - lo) dc ⟨b, off, none⟩ bs.length c cur tb (vals .u8 bs) hu gE hg (by rw [qT]; exact (Nat.min_eq_left (by omega)).symm) (Wx jH) (by rw [qT]; omega) TN
  unfold Oper.wp
  simp [execOp, ho, resolve, invoke, builtin, hd, hs, iH, Result.andThen]
  rw [qT]
  refine h _ ⟨by rw [Rb]; omega, .inr ⟨g, cap, _, by rw [UA _ _ _ oD], hb, setRow_heap w g _ _ tb _ hg, by rw [UA _ _ _ oD]; exact FQ, jY, ?_, ?_⟩⟩ ⟨rfl, rfl, rfl, by simp [World.setRow], fun k _ hk => setRow_other w g k _ (fun e => hk (by rw [e]))⟩
  ·simp [qT]; omega
  ·have e : vals .u8 (putAt dur lo bs) = (vals .u8 dur).take lo ++ (vals .u8 bs ++ (vals .u8 dur).drop (lo + bs.length)) := by simp [vals, putAt]
   rw [e, UA _ _ _ oD, ← sG]
   have h := jbc cur.toList (vals .u8 bs) lo dur.length (by rw [qT]; exact oD) (by have h9 : cur.toList.length = cap := (Array.length_toList).trans hC; rw [h9]; exact FQ)
   rw [qT] at h
   simpa using h
end
theorem jar (dv pv : Value) (dur : List Int) (ps : List PW) (w : World) (hd : dur.length ≤ 1099511627776) (hv : RdD w dv pv dur ps) (jS : Valid dur.length (Rh ps)) :
  Calls Tryz.prog 17 #[.agg #[dv, pv], .bool true, .slice none 0 0] w fun e w' => ∃ a n c, e = .returned (.agg #[.slice a n c, .slice none 0 0]) ∧
   (∀ b, (Value.slice a n c).ownBlock = some b → w.heap.size ≤ b) ∧ Own 0 5 .u8 w' (.slice a n c) (Ta (fun _ => true) dur (Rh ps) ps.length) ∧ Same w w' := by
 obtain ⟨i7, nm⟩ : ∃ i7 : Nat → Bool, i7 = fun _ => true := ⟨_, rfl⟩
 rw [← nm]
 have Ha : Hid (i7 = fun _ => true) := nm
 clear nm
 have qR : (Tryz.prog.info? 5).map (·.size) = some 1 := by kernel_rfl
 obtain ⟨a1, c1, rfl⟩ := hv.dur.form
 obtain ⟨a2, c2, e2⟩ := hv.pend.form
 have HP : Hid (RdP w pv ps) := hv.pend
 have HR : Hid (Rd .u8 w (.slice a1 dur.length c1) dur) := hv.dur
 have HV : Hid (Valid dur.length (Rh ps)) := jS
 subst e2
 have nE : ps.length ≤ 8192 := by have := jS.1.2.2.2; rwa [RN] at this
 have m7 : 512 ≤ dur.length := by have := jS.1.2.1; omega
 clear hv jS
 go_enter Tryz.func17, Tryz.ntmps17
 go_wp2_with fail
 refine (jbZ _ dur _ hd (HR.out.same ((kZ0.alloc _).alloc _))).mono ?_
 rintro e w1 ⟨a, n, c, rfl, ho, hf, hk⟩
 simp only [World.size_alloc] at hf
 obtain ⟨g, cap, e3, _, Og, LK, _⟩ : ∃ g cap, Value.slice a n c = .slice (some ⟨g, 0, none⟩) dur.length cap ∧ 0 ≤ g ∧ g < w1.heap.size ∧ dur.length ≤ cap ∧ cap ≤ maxLen := by
  rcases ho.form with ⟨_, h⟩ | h
  ·simp [h] at m7
  ·exact h
 simp only [Value.slice.injEq] at e3
 obtain ⟨rfl, rfl, rfl⟩ := e3
 have PD : w.heap.size + 1 < g := by have := hf g rfl; omega
 have b0 := ((FBox.new w (.slice a1 dur.length c1) (.slice a2 ps.length c2) 33).next _).same hk
 have b1 := (FBox.new (w.alloc (.cells #[.slice a1 dur.length c1, .slice a2 ps.length c2] 33)) (.slice none 0 0) (.slice none 0 0) 33).same hk
 simp only [World.size_alloc] at b1
 have bm : Hid (FBox w1 w.heap.size (.slice a1 dur.length c1) (.slice a2 ps.length c2)) := b0
 have bf : Hid (FBox w1 (w.heap.size + 1) (.slice none 0 0) (.slice none 0 0)) := b1
 have HO := (show Hid (Own 0 5 .u8 w1 (.slice (some ⟨g, 0, none⟩) dur.length c) dur) from ho)
 have HK : Hid (Same w w1) := ((kZ0.alloc _).alloc _).trans hk
 have Nv : w.heap.size + 1 < w1.heap.size := b1.lt
 clear ho hf hk b0 b1
 obtain ⟨cap, rfl⟩ : ∃ cap, cap = c := ⟨_, rfl⟩
 go_wp2
 go_loopw [8] (fun i wr => ∃ (k : Nat), k ≤ ps.length ∧ i = .int .i64 k ∧ Hid (FBox wr w1.heap.size (.slice (some ⟨g, 0, none⟩) dur.length cap) (.slice none 0 0)) ∧
   Hid (Own 0 5 .u8 wr (.slice (some ⟨g, 0, none⟩) dur.length cap) (Ta i7 dur (Rh ps) k)) ∧ Hid (Kept (fun b => b = g) w1 wr)) (fun i _ => ps.length - (intOf i).toNat)
 case atStart => exact ⟨0, Nat.zero_le _, rfl, FBox.new _ _ _ _, HO.out.same (kZ0.alloc _), kZ0.alloc _⟩
 case round =>
  obtain ⟨k, hk, rfl, HX, HOr, dO⟩ := hrel
  obtain ⟨o1, o2, _, _⟩ := bm.out.kept dO.out (by omega)
  by_cases bH : k < ps.length
  ·obtain ⟨b, off, rfl, hc⟩ : ∃ b off, a2 = some ⟨b, off, none⟩ ∧ ∀ i (h : i < ps.length), w.cell? ⟨b, off + i * 2, none⟩ = some (.int .i64 ps[i].sec) ∧ w.cell? ⟨b, off + i * 2 + 1, none⟩ = some ps[i].v := by
    rcases HP.out.row with ⟨rfl, _⟩ | ⟨b, off, c, e, hc⟩
    ·simp at bH
    ·simp only [Value.slice.injEq, true_and] at e
     obtain ⟨rfl, rfl⟩ := e
     exact ⟨b, off, rfl, hc⟩
   obtain ⟨v1, v2, v3⟩ := HV.out.2 (ps[k].sec, ps[k].bs) (List.mem_map.2 ⟨ps[k], List.getElem_mem bH, rfl⟩)
   simp only at v1 v2 v3
   obtain ⟨b3, o3, c3, ev, jH⟩ : ∃ b3 o3 c3, ps[k].v = .slice (some ⟨b3, o3, none⟩) ps[k].bs.length c3 ∧ ∀ i, i < ps[k].bs.length → w.cell? ⟨b3, o3 + i, none⟩ = some (.int .u8 (ps[k].bs.getD i 0)) := by
    rcases (HP.out.data _ (List.getElem_mem bH)).2 with ⟨h, _⟩ | ⟨b3, o3, c3, h, _, hc⟩
    ·simp [h] at v3
    ·exact ⟨b3, o3, c3, h, hc⟩
   have OS : b < w.heap.size := World.block_lt_of_cell? w _ (hc k bH).1
   have zq : Kept (fun b => b = g) w wr := (HK.out.mono (fun _ _ h => h.elim)).trans dO.out
   have q1 := zq.cellOf (hc k bH).1 (by show ¬ b = g; omega)
   have q2 := zq.cellOf (hc k bH).2 (by show ¬ b = g; omega)
   rw [ev] at q2
   obtain ⟨sn, ug⟩ : ∃ sn : Nat, ps[k].sec = sn := ⟨ps[k].sec.toNat, by omega⟩
   rw [ug] at q1 v2
   have j1 : (Rh ps).getD k (0, []) = ((sn : Int), ps[k].bs) := by simp [Rh, List.getD, bH, ug]
   have lr : ∀ i, i < ps[k].bs.length → b3 < w.heap.size := fun i hi => World.block_lt_of_cell? w _ (jH i hi)
   have Cj : Hid (∀ i, i < ps[k].bs.length → wr.drew.cell? ⟨b3, o3 + i, none⟩ = some (.int .u8 (ps[k].bs.getD i 0))) := fun i hi => zq.drew.cellOf (jH i hi) (by have := lr i hi; show ¬ b3 = g; omega)
   have eU : Hid ((Ta i7 dur (Rh ps) k).length = dur.length) := UL _ _ _ HV.out _ (by rw [RN]; omega)
   have lv : (sn + 1) * 512 ≤ dur.length := by have := HV.out.1.1; omega
   have EE : Hid (sn * 512 + ps[k].bs.length ≤ (Ta i7 dur (Rh ps) k).length) := by rw [eU.out, v3]; unfold Hid; omega
   have ko : Hid (Ta i7 dur (Rh ps) (k + 1) = putAt (Ta i7 dur (Rh ps) k) (sn * 512) ps[k].bs) := by
    unfold Hid
    rw [Ta, Ha.out, if_pos rfl, j1]
    simp
   have J3 : Hid (Kept (fun b => b = g) w wr) := zq
   have gX : (sn : Int) ≤ 1024 := by have := HV.out.1.2.2.1; omega
   have e1 : ((sn : Int) * 512).toNat = sn * 512 := by omega
   have e2 : (sn : Int) * 512 ≤ (dur.length : Int) := by omega
   have e3 : (sn : Int) * 512 ≤ (cap : Int) := by omega
   have e4 : (dur.length : Int) ≤ (cap : Int) := by omega
   have e5 : IntKind.i64.wrap ((sn : Int) * 512) = (sn : Int) * 512 := by rw [IntKind.wrap_i64]; omega
   have e6 : ¬ cap = sn * 512 := by omega
   have e7 : (0 : Int) ≤ (sn : Int) * 512 := by omega
   clear ev hc jH lr j1 ug zq v1 v2 v3
   have Iz : (k : Int) < (ps.length : Int) := by omega
   have du : (0 : Int) ≤ (k : Int) := by omega
   obtain ⟨x1, x2, x3, x4⟩ := HX.out
   go_wp2_with fail
   have hS : (fun w' => w'.cell? ⟨w1.heap.size, 0, none⟩ = some (.slice (some ⟨g, 0, none⟩) dur.length cap) ∧ w'.cell? ⟨w.heap.size, 1, none⟩ = some (.slice (some ⟨b, off, none⟩) ps.length c2) ∧ w'.cell? ⟨b, off + k * 2, none⟩ = some (.int .i64 (sn : Int)) ∧ w'.cell? ⟨b, off + k * 2 + 1, none⟩ = some (.slice (some ⟨b3, o3, none⟩) ps[k].bs.length c3)) wr.drew := by go_keep
   refine Q9 (fun w' => w'.cell? ⟨w1.heap.size, 0, none⟩ = some (.slice (some ⟨g, 0, none⟩) dur.length cap) ∧ w'.cell? ⟨w.heap.size, 1, none⟩ = some (.slice (some ⟨b, off, none⟩) ps.length c2) ∧ w'.cell? ⟨b, off + k * 2, none⟩ = some (.int .i64 (sn : Int)) ∧ w'.cell? ⟨b, off + k * 2 + 1, none⟩ = some (.slice (some ⟨b3, o3, none⟩) ps[k].bs.length c3)) 99 17 rfl (by kernel_rfl) ?_
   refine tk 0 34 hS ?_
   refine tk 1 35 hS ?_
   refine tk 2 36 hS ?_
   refine tk 3 37 hS ?_
   refine tk 4 38 hS ?_
   refine tk 5 39 hS ?_
   refine tk 6 40 hS ?_
   refine tk 7 41 hS ?_
   refine tk 8 42 hS ?_
   refine tk 9 43 hS ?_
   refine tk 10 44 hS ?_
   refine tk 11 45 hS ?_
   refine tk 12 46 hS ?_
   refine tk 13 47 hS ?_
   refine tk 14 48 hS ?_
   refine tk 15 49 hS ?_
   refine o1Q 16 (fun K hK => ?_)
   refine Zb (by rfl) (.tmp 43) (.tmp 49) 22 (by rfl) Tryz.underlying22 qR g (sn * 512) dur.length cap (cap - sn * 512) b3 o3 c3 (Ta i7 dur (Rh ps) k) ps[k].bs (by exact HOr.out.same kZ0.drew) eU.out.symm (by rfl) (by rfl) (by exact fun i hi => Cj.out i hi) EE.out ?_
   intro w3 tm Fh
   have fy := (show Hid (Own 0 5 .u8 w3 _ _) from tm)
   have nw := (show Hid (Kept (fun b => b = g) wr w3) from kZ0.drew.trans (Kept.of_grown Fh (fun k e => (Option.some.inj e).symm)))
   clear tm Fh
   have I8 : Hid (FBox w3 w1.heap.size (.slice (some ⟨g, 0, none⟩) dur.length cap) (.slice none 0 0)) := HX.out.kept nw.out (by show ¬ w1.heap.size = g; omega)
   have y1 := I8.out.1
   have y2 := nw.out.cellOf o2 (by show ¬ w.heap.size = g; omega)
   have y3 := nw.out.cellOf q1 (by show ¬ b = g; omega)
   have y4 := nw.out.cellOf q2 (by show ¬ b = g; omega)
   refine hK.out _ _ (fun _ => by go_keep) ?_
   clear hK K
   refine Q8 (by kernel_rfl) ?_
   try simp only [Act.put, sA, s0, sS]
   rw [← ko.out] at fy
   have dt : Hid (Kept (fun b => b = g) w1 w3) := dO.out.trans nw.out
   clear hS x1 x2 x3 x4 q1 q2 o1 o2 y1 y2 y3 y4
   go_wp2
   go_roundw
   case rel => exact ⟨k + 1, by omega, by go_num, I8, fy, dt⟩
   case measure => simp [intOf]; omega
  ·obtain ⟨x1, x2, _, _⟩ := HX.out
   obtain ⟨p1, p2, p3, p4⟩ := bf.out.kept dO.out (by omega)
   have mS : w1.heap.size < wr.heap.size := HX.out.lt
   go_wp2
   obtain rfl : k = ps.length := by omega
   refine bodyPost_ret (v := .agg #[.slice (some ⟨g, 0, none⟩) dur.length cap, .slice none 0 0]) (by simp [results, Tryz.results17, go_sem, p1, p2]) rfl ⟨some ⟨g, 0, none⟩, dur.length, cap, rfl, fun b hb => by simp [Value.ownBlock] at hb; omega, ?_, ?_⟩
   ·refine HOr.out.kept (R := fun b => b = w.heap.size + 1) ?_ (fun b hb e => by simp [Value.ownBlock] at hb; omega)
    exact Kept.setTwo (Kept.refl (fun b => b = w.heap.size + 1) _) (.inr rfl) _ _
   ·exact Kept.setTwo (HK.out.next dO.out (fun b hb e => by have e' : b = g := e; omega)) (.inl (by simp)) _ _
def jbd (dur : List Int) (i : Nat) : List Int := (dur.drop (i * 512)).take 512
def YD (i7 : Nat → Bool) (s : Int) (ds : List (Int × List Int)) : Nat → Option (List Int)
 | 0 => none
 | k + 1 => if (ds.getD k (0, [])).1 = s ∧ i7 k = true then some (ds.getD k (0, [])).2 else YD i7 s ds k
theorem jca (dur bs : List Int) (lo : Nat) (h : lo ≤ dur.length) : ((putAt dur lo bs).drop lo).take bs.length = bs := by
 unfold putAt
 have h1 : (dur.take lo).length = lo := by rw [List.length_take]; omega
 rw [List.drop_append, h1, List.drop_of_length_le (by omega), Nat.sub_self, List.drop_zero, List.nil_append, List.take_append_of_le_length (Nat.le_refl _), List.take_length]
theorem jc6 (dur bs : List Int) (lo : Nat) (h : lo + bs.length ≤ dur.length) (k : Nat) (hk : k < lo ∨ lo + bs.length ≤ k) : (putAt dur lo bs)[k]? = dur[k]? := by
 unfold putAt
 have h1 : (dur.take lo).length = lo := by rw [List.length_take]; omega
 rcases hk with hk | hk
 ·rw [List.getElem?_append_left (by omega), List.getElem?_take, if_pos hk]
 ·rw [List.getElem?_append_right (by omega), List.getElem?_append_right (by omega), List.getElem?_drop, h1]
  congr 1
  omega
theorem jcb (dur bs : List Int) (i j : Nat) (P8 : i ≠ j) (hb : bs.length = 512) (h : j * 512 + 512 ≤ dur.length) : jbd (putAt dur (j * 512) bs) i = jbd dur i := by
 unfold jbd
 apply List.ext_getElem?
 intro k
 rw [List.getElem?_take, List.getElem?_take]
 split
 ·rw [List.getElem?_drop, List.getElem?_drop, jc6 _ _ _ (by omega) _ (by rw [hb]; omega)]
 ·rfl
theorem jc7 (dur bs : List Int) (i : Nat) (hb : bs.length = 512) (h : i * 512 + 512 ≤ dur.length) : jbd (putAt dur (i * 512) bs) i = bs := by
 have := jca dur bs (i * 512) (by omega)
 rw [hb] at this
 exact this
theorem YE (i7 : Nat → Bool) (dur : List Int) (ds : List (Int × List Int)) (hv : Valid dur.length ds) (i : Nat) (hi : i < dur.length / 512) : ∀ n, n ≤ ds.length → jbd (Ta i7 dur ds n) i = (YD i7 (i : Int) ds n).getD (jbd dur i)
 | 0, _ => rfl
 | n + 1, hn => by
  have ih := YE i7 dur ds hv i hi n (by omega)
  have hl := UL i7 dur ds hv n (by omega)
  have hm : ds.getD n (0, []) ∈ ds := by simp [List.getD, show n < ds.length from by omega]
  obtain ⟨h1, h2, h3⟩ := hv.2 _ hm
  have h4 := hv.1.1
  unfold Ta YD
  by_cases hs : i7 n = true
  ·rw [if_pos hs]
   by_cases iG : (ds.getD n (0, [])).1 = (i : Int)
   ·rw [if_pos ⟨iG, hs⟩, iG, show ((i : Int)).toNat = i from by omega, jc7 _ _ _ h3 (by omega)]
    rfl
   ·rw [if_neg (fun h => iG h.1), ← ih]
    exact jcb _ _ _ _ (by omega) h3 (by omega)
  ·rw [if_neg hs, if_neg (fun h => hs h.2)]
   exact ih
theorem XH (s : Int) (ds : List (Int × List Int)) : ∀ n, n ≤ ds.length → Tt s (ds.take n) = YD (fun _ => true) s ds n
 | 0, _ => by simp [Tt, YD]
 | n + 1, hn => by
  have ih := XH s ds n (by omega)
  have hg : ds.getD n (0, []) = ds[n]'(by omega) := by simp [List.getD, show n < ds.length from by omega]
  rw [List.take_succ_eq_append_getElem (by omega)]
  unfold YD
  rw [hg]
  by_cases h : (ds[n]'(by omega)).1 = s
  ·rw [if_pos ⟨h, rfl⟩, ← h]
   exact YB _ _ _
  ·rw [if_neg (fun q => h q.1), ← ih]
   exact UZ _ _ _ (fun p hp => by rw [List.mem_singleton.1 hp]; exact h)
theorem jcc (i : Nat) (dur : List Int) (ds : List (Int × List Int)) : Uz (i : Int) dur ds = (YD (fun _ => true) (i : Int) ds ds.length).getD (jbd dur i) := by
 have h := XH (i : Int) ds ds.length (Nat.le_refl _)
 rw [List.take_length] at h
 unfold Uz jbd
 rw [h, show ((i : Int)).toNat = i from by omega]
theorem jcd {dur : List Int} {ds : List (Int × List Int)} (hv : Valid dur.length ds) {i : Nat} (hi : i < dur.length / 512) : ((Ta (fun _ => true) dur ds ds.length).drop (i * 512)).take 512 = Uz (i : Int) dur ds := by
 have h := YE (fun _ => true) dur ds hv i hi ds.length (Nat.le_refl _)
 rw [jcc, ← h]
 rfl
end Go.Proofs.YtaojjcnmififoaaGreat
