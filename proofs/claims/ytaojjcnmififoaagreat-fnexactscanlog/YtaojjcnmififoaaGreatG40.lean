import Derived.Test.YtaojjcnmififoaaGreatG31
import Derived.Test.YtaojjcnmififoaaGreatG29
import Derived.Test.YtaojjcnmififoaaGreatG30
import Derived.Test.YtaojjcnmififoaaGreatG09
import Derived.Test.YtaojjcnmififoaaGreatG00
import Derived.Test.YtaojjcnmififoaaGreatG01
import Derived.RangeFuncNested
import Derived.RangeFuncBound
import Derived.RangeFuncCalls
import Derived.RangeFuncLeaves
import Derived.Shelf.Abstract
import Derived.WalkKit
import Derived.OwnWalkIn
import Derived.TacticsInMore
import Derived.LoopNIn
import Derived.LoopIn
import Derived.Deep.AppendLies
import Derived.Deep.MidRow
import Derived.Deep.DeepCutAuto
import Derived.Deep.RegionHeld3
namespace Go.Proofs.YtaojjcnmififoaaGreat
set_option maxRecDepth 100000
set_option maxHeartbeats 4000000
set_option linter.unusedVariables false
set_option linter.unusedSimpArgs false
open Go Go.RowKit Go.Shelf
theorem jbm (s fl st : Int) (w : World) : Calls Tryz.prog 25 #[.int .i64 s, .int .i64 fl, .int .i64 st] w fun e w' =>
  e = .returned (.func (.func 46) #[] #[.pointer (some ⟨w.heap.size + 1, 0, none⟩), .pointer (some ⟨w.heap.size + 1 + 1, 0, none⟩), .pointer (some ⟨w.heap.size, 0, none⟩)]) ∧
   Blk w' w.heap.size 2 [.int .i64 s] ∧ Blk w' (w.heap.size + 1) 2 [.int .i64 fl] ∧ Blk w' (w.heap.size + 1 + 1) 2 [.int .i64 st] ∧ w'.heap.size = w.heap.size + 1 + 1 + 1 ∧ Same w w' := by
 have b0 := (Blk.newA w [.int .i64 s] 2 [.int .i64 fl] 2).same (kZ0.alloc (.cells #[.int .i64 st] 2))
 have b1 := (Blk.newB w [.int .i64 s] 2 [.int .i64 fl] 2).same (kZ0.alloc (.cells #[.int .i64 st] 2))
 have b2 := Blk.newL ((w.alloc (.cells #[.int .i64 s] 2)).alloc (.cells #[.int .i64 fl] 2)) [.int .i64 st] 2
 simp only [World.size_alloc] at b2
 have H0 := hid b0
 have H1 := hid b1
 have H2 := hid b2
 clear b0 b1 b2
 have QH : ∀ (fn : Fn) (first cap : Array Value) (w : World), (Instr.makeFunc fn first cap).run Tryz.prog w = .ok (.func fn first cap) w := fun _ _ _ _ => rfl
 go_enter Tryz.func25, Tryz.ntmps25
 go_wp2
 go_ret
 exact ⟨rfl, H0.out, H1.out, H2.out, by simp [World.size_alloc], ((kZ0.alloc _).alloc _).alloc _⟩
def KpB (b : Nat) (W W' : World) : Prop := ∀ k, b ≤ k → k ≤ b + 2 → W'.heap[k]? = W.heap[k]?
theorem KpB.blk {b k : Nat} {W W' : World} {e : TypeId} {vs : List Value} (h : KpB b W W') (h1 : b ≤ k) (h2 : k ≤ b + 2) (hb : Blk W k e vs) : Blk W' k e vs := (h k h1 h2).trans hb
theorem KpB.t {b : Nat} {A B C : World} (h : KpB b A B) (k : KpB b B C) : KpB b A C := fun x h1 h2 => (k x h1 h2).trans (h x h1 h2)
theorem KpB.put {b : Nat} {w : World} (hw : b + 2 < w.heap.size) (W : World) (l : Nat) (o o' : Obj) (hl : w.heap.size ≤ l) (_ : W.heap[l]? = some o) (_ : o.isCells = false) (_ : o.isWalk = false) : KpB b W (W.putObj l o') := fun k _ h2 => World.putObj_heap_other (by omega)
theorem Same.grown {w w' : World} (h : Same w w') : w.grownBy w' none := ⟨h.os, h.tape, h.output, h.size, fun k hk _ => h.block k hk id⟩
def secs (s at0 : Int) (M : Nat) (k : Fin M) : Array Value := #[.int .i64 (at0 + 512 * (k.val : Int)), .int .i64 (Sw s (at0 + 512 * (k.val : Int)))]
theorem YJ (n b M : Nat) (s fl st at0 : Int) (w : World) (fk : fl - fl % 512 = at0) (h0 : 0 ≤ fl) (h1 : st ≤ 1099511627776) (As : fl ≤ 1099511627776) (bH : ∀ k : Nat, k < M → at0 + 512 * (k : Int) < st) (hM : st ≤ at0 + 512 * (M : Int))
  (b0 : Blk w b 2 [.int .i64 s]) (b1 : Blk w (b + 1) 2 [.int .i64 fl]) (b2 : Blk w (b + 1 + 1) 2 [.int .i64 st]) :
  SeqStopsK Fence.wide n Tryz.prog 46 #[.pointer (some ⟨b + 1, 0, none⟩), .pointer (some ⟨b + 1 + 1, 0, none⟩), .pointer (some ⟨b, 0, none⟩)] (secs s at0 M) (KpB b) (fun xs => xs.map Fin.val = List.range M) (fun xs => xs.map Fin.val = List.range xs.length) M w := by
 intro l J Jx W hW hJ Ni hY Km
 have A6 : Same w W := Kept.of_below hW
 have H0 := hid (b0.same A6)
 have H1 := hid (b1.same A6)
 have H2 := hid (b2.same A6)
 have Nz := hid Km
 have HJ := hid hJ
 have HY := hid hY
 clear b0 b1 b2 A6 hW Km hJ Ni hY
 have hm : M ≤ 2147483649 := by
  rcases Nat.eq_zero_or_pos M with h | h
  ·omega
  ·have := bH (M - 1) (by omega); omega
 have k0 := fun wx => Vs fl wx h0 As
 rw [fk] at k0
 have c0 := H1.out.c0
 refine callsIn_of_wp Tryz.func46 rfl trivial ?_ rfl
 simp only [Tryz.ntmps46, List.size_toArray, List.length_cons, List.length_nil, Nat.reduceAdd, Nat.reduceSub, Array.replicate_succ, Array.replicate_zero, List.push_toArray, List.append_toArray, List.nil_append, List.cons_append]
 gi_wp2_with (refine ⟨trivial, (fun h => by simp [Fence.wide] at h), ?_⟩; refine (callsIn_wide.2 (k0 _)).mono ?_; rintro e w1 ⟨rfl, aH⟩; have aM := (show Hid (Same W w1) from aH); clear aH)
 gi_loopw [5] (fun i wr => ∃ (k : Nat) (pre : List (Fin M)), k ≤ M ∧ i = .int .i64 (at0 + 512 * (k : Int)) ∧ Hid (pre.map Fin.val = List.range k) ∧ Hid (Blk wr b 2 [.int .i64 s]) ∧ Hid (Blk wr (b + 1 + 1) 2 [.int .i64 st]) ∧ Hid (Same W wr ∨ True) ∧ Hid (J pre wr)) (fun i _ => (1099511627776 + 1024 - intOf i).toNat)
 case atStart => exact ⟨0, [], Nat.zero_le _, by simp, rfl, H0.out.same aM.out, H2.out.same aM.out, .inr trivial, HJ.out _ _ _ none Nz.out (Same.grown aM.out) (fun r e => by cases e)⟩
 case round =>
  obtain ⟨k, pre, hk, rfl, HP, bm, cm, _, KQ⟩ := hrel
  have d0 := bm.out.c0
  have d2 := cm.out.c0
  by_cases pq : k < M
  ·have QK := bH k pq
   have nE : pre.length = k := by have := congrArg List.length HP.out; simpa using this
   have k1 := fun wx => Wd s (at0 + 512 * (k : Int)) wx
   gi_wp2_with (refine ⟨trivial, (fun h => by simp [Fence.wide] at h), ?_⟩; refine (callsIn_wide.2 (k1 _)).mono ?_; rintro e w2 ⟨rfl, aN⟩; have aY := (show Hid (Same wr w2) from aN); clear aN)
   have IX : J pre w2 := HJ.out _ _ _ none KQ.out (Same.grown aY.out) (fun r e => by cases e)
   obtain ⟨fn, tmps, assign, body, hy, hR⟩ := HY.out pre ⟨k, pq⟩ w2 IX (by omega)
   dsimp only [secs] at hy
   have tR : IntKind.i64.wrap (at0 + 512 * (k : Int) + 512) = at0 + 512 * ((k + 1 : Nat) : Int) := by rw [IntKind.wrap_i64]; omega
   rw [hy, Oper.uponIn_round]
   refine ⟨fun h => by simp [Fence.wide] at h, ?_⟩
   refine hR.mono ?_
   rintro e W3 (⟨rfl, hJ3, fq⟩ | ⟨rfl, hJx3⟩)
   ·have xK := hid hJ3
    have Fg := (show Hid (Blk W3 b 2 [.int .i64 s]) from fq.blk (Nat.le_refl _) (by omega) (bm.out.same aY.out))
    have Du := (show Hid (Blk W3 (b + 1 + 1) 2 [.int .i64 st]) from fq.blk (by omega) (by omega) (cm.out.same aY.out))
    clear hJ3 fq hR hy IX
    gi_wp2
    go_roundw
    case rel =>
     refine ⟨k + 1, pre ++ [⟨k, pq⟩], by omega, ?_, ?_, Fg, Du, .inr trivial, xK⟩
     ·first | rfl | (rw [tR]) | (congr 1; omega) | simp
     ·unfold Hid
      rw [List.map_append, HP.out, List.range_succ]
      rfl
    case measure => simp only [intOf]; omega
   ·gi_wp2
    refine bodyPost_ret (results_none rfl _ _ _) rfl ?_
    exact ⟨⟨_, rfl⟩, .inr ⟨_, by rw [List.map_append, HP.out, List.length_append, List.length_singleton, nE, List.range_succ]; rfl, hJx3⟩⟩
  ·obtain rfl : k = M := by omega
   have oS : ¬ at0 + 512 * (k : Int) < st := by omega
   gi_wp2
   go_end0
   exact ⟨⟨_, rfl⟩, .inl ⟨pre, HP.out, KQ.out⟩⟩
theorem jc9 (s t : Int) (dur : List Int) (ds : List (Int × List Int)) (bs : List Int) : Uz s dur (ds ++ [(t, bs)]) = if t = s then bs else Uz s dur ds := by
 unfold Uz
 by_cases h : t = s
 ·subst h
  rw [YB, if_pos rfl]
  rfl
 ·rw [UZ _ _ _ (fun p hp => by simp at hp; rw [hp]; exact h), if_neg h]
def jgc (w w' : World) (dur : List Int) (ds : List (Int × List Int)) (v : Value) : Prop :=
 ∃ G us, v = .slice (some ⟨G, 0, none⟩) us.length us.length ∧ us.length = dur.length / 512 ∧ w.heap.size ≤ G ∧ Blk w' G 22 us ∧ (∀ i (h : i < us.length), Rd .u8 w us[i] (Uz (i : Int) dur ds)) ∧ Same w w'
theorem Tryz.infoBytes' : (Tryz.prog.info? 22).map (fun i => (i.zero, i.size, i.bytes)) = some (some (.slice none 0 0), 1, 24) := by kernel_rfl
theorem Blk.of_row {w : World} {base g n : Nat} {e : TypeId} {xs : List Value} (h : w.ownsRow base e 1 (.slice (some ⟨g, 0, none⟩) n n) n xs) : Blk w g e xs := by
 rcases h.2 with ⟨h, _⟩ | ⟨g', cap, cur, h, _, hg, _, _, hs, ht⟩
 ·cases h
 ·cases h
  have hl : cur.toList.length = n * 1 := by simpa using hs
  rw [List.take_of_length_le (by omega)] at ht
  unfold Blk
  rw [← ht]
  simpa using hg
theorem jgd (n : Nat) : (madeCells (Value.slice none 0 0).cells (n * 1)).toList = List.replicate n (Value.slice none 0 0) := by
 apply List.ext_getElem?
 intro j
 by_cases hj : j < n
 ·simp [madeCells, Value.cells, hj, Nat.mod_one]
 ·rw [List.getElem?_eq_none (by simp [madeCells]; omega), List.getElem?_eq_none (by simp; omega)]
def jd2 (b o c i : Nat) : Value := .slice (some ⟨b, o + i * 512, none⟩) 512 (c - i * 512)
def VJ (b o c k : Nat) : List Value := (List.range k).map (jd2 b o c)
theorem Tn (b o c k : Nat) : (VJ b o c k).length = k := by simp [VJ]
theorem jcm (b o c k n : Nat) (h : k < n) : (VJ b o c k ++ List.replicate (n - k) (Value.slice none 0 0)).set k (jd2 b o c k) = VJ b o c (k + 1) ++ List.replicate (n - (k + 1)) (Value.slice none 0 0) := by
 obtain ⟨m, hm⟩ : ∃ m, n - k = m + 1 := ⟨n - k - 1, by omega⟩
 rw [hm, List.set_append_right (h := by rw [Tn]; exact Nat.le_refl _), Tn, Nat.sub_self, List.replicate_succ, List.set_cons_zero, show n - (k + 1) = m from by omega]
 unfold VJ
 rw [List.range_succ, List.map_append, List.append_assoc]
 rfl
theorem jd3 (dv pv : Value) (dur : List Int) (ps : List PW) (w : World) (hV : Valid dur.length (Rh ps)) (hv : RdD w dv pv dur ps) :
  Calls Tryz.prog 23 #[.agg #[dv, pv]] w fun e w' => ∃ v, e = .returned v ∧ jgc w w' dur (Rh ps) v := by
 obtain ⟨⟨h1, h2, h3, h4⟩, qg⟩ := hV
 rw [RN] at h4
 have yz : Hid (∀ k (h : k < ps.length), 0 ≤ ps[k].sec ∧ ps[k].sec < (dur.length / 512 : Nat) ∧ ps[k].bs.length = 512) := fun k h => qg (ps[k].sec, ps[k].bs) (List.mem_map.2 ⟨ps[k], List.getElem_mem h, rfl⟩)
 have jZ := hv.pend.len
 have hm := hv.dur.1
 unfold maxLen at jZ
 obtain ⟨N, hN⟩ : ∃ N, dur.length / 512 = N := ⟨_, rfl⟩
 have dR : dur.length = N * 512 := by omega
 obtain ⟨b0, o0, c0, rfl, pO, kr⟩ : ∃ b off c, dv = .slice (some ⟨b, off, none⟩) dur.length c ∧ dur.length ≤ c ∧ ∀ i, i < dur.length → w.cell? ⟨b, off + i, none⟩ = some (.int .u8 (dur.getD i 0)) := by
  rcases hv.dur.2 with ⟨rfl, _⟩ | h
  ·simp at h2
  ·exact h
 have M2 := hid kr
 obtain ⟨a2, c2, rfl⟩ := hv.pend.form
 have HP := hid hv.pend
 obtain ⟨i0, hi, eL, eT, fM⟩ := info_parts Tryz.infoBytes'
 have aJ := hid (Xx w [.slice (some ⟨b0, o0, none⟩) dur.length c0, .slice a2 ps.length c2] 33)
 have bm := hid (Blk.newL w [.slice (some ⟨b0, o0, none⟩) dur.length c0, .slice a2 ps.length c2] 33)
 have k0 := fun wx => R5 (some ⟨b0, o0, none⟩) dur.length c0 a2 ps.length c2 wx hm
 rw [hN] at h2 h3 k0 yz
 have eU := hid dR
 have HN := hid hN
 clear hv kr qg hN h1
 generalize m7 : dur.length = L at hm dR pO eU aJ bm k0 ⊢
 have yC := hid m7
 clear m7
 subst dR
 go_enter Tryz.func23, Tryz.ntmps23
 go_wp2_with fail
 refine (k0 _).mono ?_
 rintro e w1 ⟨rfl, fX⟩
 have aH : Same (w.alloc (.cells #[.slice (some ⟨b0, o0, none⟩) (N * 512) c0, .slice a2 ps.length c2] 33)) w1 := by rw [fX]; exact kZ0.alloc _
 have aM := hid (aJ.out.trans aH)
 have bf := hid (bm.out.same aH)
 clear aH fX k0 aJ bm
 go_wp2_with (at_make; go_loud (refine wpList_make_full _ rfl (.tmp 8) (.tmp 8) 58 rfl 0 22 i0 (.slice none 0 0) 1 Tryz.underlying58 hi eL eT .i64 .i64 _ _ N rfl rfl (by simp) (by simp) (by rw [fM]; omega) (by unfold maxLen; omega) (Nat.zero_le _) ?_); intro w2 aw sq; have wM := (show Hid (Blk w2 w1.heap.size 22 (List.replicate N (Value.slice none 0 0))) from (by rw [jgd] at aw; exact Blk.of_row aw)); have aY : Hid (Same w1 w2) := Kept.of_grown sq (fun k e => by cases e); clear aw sq)
 have Mk : w.heap.size < w1.heap.size := bf.out.lt
 have cm := hid (bf.out.same aY.out)
 go_loopw [12] (fun i wr => ∃ (k : Nat), k ≤ N ∧ i = .int .i64 (k : Int) ∧ Hid (Blk wr w1.heap.size 22 (VJ b0 o0 c0 k ++ List.replicate (N - k) (Value.slice none 0 0))) ∧ Hid (Blk wr w.heap.size 33 [.slice (some ⟨b0, o0, none⟩) (N * 512) c0, .slice a2 ps.length c2]) ∧ Hid (Same w1 wr)) (fun i _ => N - (intOf i).toNat)
 case atStart => exact ⟨0, Nat.zero_le _, rfl, by simpa [VJ, Hid] using wM.out, cm, aY⟩
 case round =>
  obtain ⟨k, hk, rfl, HG, HB, HK⟩ := hrel
  clear wM cm aY bf
  by_cases bH : k < N
  case pos =>
   obtain ⟨d0, d1⟩ := HB.out.all2
   have e1 : ((k : Int) * 512).toNat = k * 512 := by omega
   have e2 : (((k : Int) + 1) * 512).toNat = k * 512 + 512 := by omega
   have g1 : ((k : Int) + 1) * 512 ≤ (c0 : Int) := by omega
   have g2 : 0 ≤ ((k : Int) + 1) * 512 := by omega
   have g3 : (k : Int) * 512 ≤ ((k : Int) + 1) * 512 := by omega
   have lM := HG.out.cell k
   have Il := HG.out.frozen k
   rw [List.getElem?_append_right (by rw [Tn]; exact Nat.le_refl _), Tn, Nat.sub_self, List.getElem?_replicate, if_pos (by omega)] at lM
   have ko := hid (HG.out.stored k (jd2 b0 o0 c0 k))
   rw [jcm b0 o0 c0 k N bH] at ko
   unfold jd2 at ko
   go_wp2
   go_roundw
   case rel => exact ⟨k + 1, by omega, by go_num, ko, HB.out.other (by dsimp only; omega) _, HK.out.setCell (.inl (Nat.le_refl _)) _⟩
   case measure => simp [intOf]; omega
  obtain rfl : k = N := by omega
  have FF := HK.out.size
  have Gj := HG.out
  rw [Nat.sub_self, List.replicate_zero, List.append_nil] at Gj
  have wk : Hid (∀ i (h : i < (VJ b0 o0 c0 k).length), Rd .u8 w (VJ b0 o0 c0 k)[i] (Uz (i : Int) dur (Rh (ps.take 0)))) := fun i h => by
   rw [Tn] at h
   have e : (VJ b0 o0 c0 k)[i]'(by rw [Tn]; exact h) = jd2 b0 o0 c0 i := by simp [VJ]
   rw [e]
   have hs : Uz (i : Int) dur (Rh (ps.take 0)) = (dur.drop (i * 512)).take 512 := by simp [Uz, Rh, Tt]
   rw [hs]
   exact Rd.part (fun j hj => M2.out j hj) (i * 512) 512 (by rw [yC.out]; omega) rfl (by omega) (by simp [maxLen])
  have KI := hid Gj
  clear Gj HG
  obtain ⟨d0, d1⟩ := HB.out.all2
  go_wp2_with fail
  go_loopw [30] (fun i wx => ∃ (j : Nat) (us : List Value), j ≤ ps.length ∧ i = .int .i64 (j : Int) ∧ Hid (us.length = k) ∧ Hid (Blk wx w1.heap.size 22 us) ∧ Hid (∀ i (h : i < us.length), Rd .u8 w us[i] (Uz (i : Int) dur (Rh (ps.take j)))) ∧ Hid (Same w1 wx)) (fun i _ => ps.length - (intOf i).toNat)
  case atStart => exact ⟨0, _, Nat.zero_le _, rfl, Tn _ _ _ _, KI, wk, HK⟩
  case round =>
   clear KI wk d0 d1 HB HK
   obtain ⟨j, us, hj, rfl, qQ, HG, wk, HK⟩ := hrel
   by_cases bH : j < ps.length
   case neg =>
    obtain rfl : j = ps.length := by omega
    rw [List.take_length] at wk
    go_wp2
    go_ret
    exact ⟨_, rfl, w1.heap.size, us, by rw [qQ.out]; rfl, by rw [qQ.out, HN.out], by omega, HG.out, wk.out, aM.out.trans HK.out⟩
   obtain ⟨b2, Np, rfl, hc⟩ : ∃ b off, a2 = some ⟨b, off, none⟩ ∧ ∀ i (h : i < ps.length), w.cell? ⟨b, off + i * 2, none⟩ = some (.int .i64 ps[i].sec) ∧ w.cell? ⟨b, off + i * 2 + 1, none⟩ = some ps[i].v := by
    rcases HP.out.row with ⟨h, _⟩ | ⟨b, off, c, e, hc⟩
    ·rw [h] at bH; simp at bH
    ·simp only [Value.slice.injEq, true_and] at e
     obtain ⟨rfl, rfl⟩ := e
     exact ⟨b, off, rfl, hc⟩
   have q1 := (aM.out.trans HK.out).cellOf (hc j bH).1 id
   have q2 := (aM.out.trans HK.out).cellOf (hc j bH).2 id
   obtain ⟨s1, s2, s3⟩ := yz.out j bH
   obtain ⟨sn, ug⟩ : ∃ sn : Nat, ps[j].sec = sn := ⟨ps[j].sec.toNat, by omega⟩
   have HD := hid (HP.out.data _ (List.getElem_mem bH))
   obtain ⟨a5, c5, e5⟩ := HD.out.form
   have sW : ps.take (j + 1) = ps.take j ++ [ps[j]] := List.take_succ_eq_append_getElem bH
   have ka : Rh (ps.take (j + 1)) = Rh (ps.take j) ++ [((sn : Int), ps[j].bs)] := by
    rw [sW]; unfold Rh; rw [List.map_append]; simp [ug]
   have jI := hid ka
   have jC := HD.out
   rw [e5, s3] at jC
   have Lt := hid jC
   rw [ug] at q1 s1 s2
   rw [e5, s3] at q2
   have Hr : sn < k := by omega
   have lM := HG.out.cell sn
   have Il := HG.out.frozen sn
   rw [List.getElem?_eq_getElem (by rw [qQ.out]; exact Hr)] at lM
   generalize us[sn]'(by rw [qQ.out]; exact Hr) = NZ at lM
   have Po := HK.out.size
   have eT := HG.out.lt
   clear hc sW ka e5 ug jC HD s1 s2 s3
   go_wp2
   go_roundw
   case rel =>
    refine ⟨j + 1, us.set sn (.slice a5 512 c5), by omega, by go_num, by rw [List.length_set]; exact qQ.out, ?_, fun i h => ?_, ?_⟩
    ·first | exact (HG.out.stored sn _).alloc _ | exact (HG.out.alloc _).stored sn _
    ·rw [jI.out, jc9]
     by_cases e : (sn : Int) = (i : Int)
     ·rw [if_pos e]
      obtain rfl : sn = i := by omega
      rw [List.getElem_set_self]
      exact Lt.out
     ·rw [if_neg e, List.getElem_set_ne (by omega)]
      exact wk.out i (by rwa [List.length_set] at h)
    ·first | exact (HK.out.setCell (.inl (Nat.le_refl _)) _).alloc _ | exact (HK.out.alloc _).setCell (.inl (Nat.le_refl _)) _
   case measure => simp [intOf]; omega
abbrev F5 := Int × Int × Int × Int × Int
abbrev Q4 := Int × Int × Int × Int
abbrev U3 := Int × Int × Int
def OwQ (m : Nat) (e : TypeId) (w : World) (a : Option Addr) (n c : Nat) (bs : List Int) : Prop := w.ownsRow 0 e m (.slice a n c) n (vals .i64 bs)
theorem OwQ.kept {R : Nat → Prop} {m : Nat} {e : TypeId} {w w' : World} {a : Option Addr} {n c : Nat} {bs : List Int} (h : OwQ m e w a n c bs) (hk : Kept R w w') (hr : ∀ b, (Value.slice a n c).ownBlock = some b → ¬ R b) : OwQ m e w' a n c bs := hk.owns h hr
theorem OwQ.same {m : Nat} {e : TypeId} {w w' : World} {a : Option Addr} {n c : Nat} {bs : List Int} (h : OwQ m e w a n c bs) (hk : Same w w') : OwQ m e w' a n c bs := hk.owns h (fun _ _ => id)
theorem OwQ.nil (m : Nat) (e : TypeId) (w : World) : OwQ m e w none 0 0 [] := ⟨by simp [vals], .inl ⟨rfl, rfl⟩⟩
theorem OwQ.len {m : Nat} {e : TypeId} {w : World} {a : Option Addr} {n c : Nat} {bs : List Int} (h : OwQ m e w a n c bs) : bs.length = n * m := by
 have := h.1
 rwa [Rb] at this
theorem OwQ.rows {m : Nat} {e : TypeId} {w : World} {a : Option Addr} {n c : Nat} {bs : List Int} (h : OwQ m e w a n c bs) : OwnL w (FR.rows m ⟨e, a, n, c, bs⟩) :=
 ⟨fun r hr => by rw [List.mem_singleton.1 hr]; exact h, List.pairwise_singleton _ _⟩
theorem OwQ.lt {m : Nat} {e : TypeId} {w : World} {a : Option Addr} {n c : Nat} {bs : List Int} (h : OwQ m e w a n c bs) : ∀ b, (Value.slice a n c).ownBlock = some b → b < w.heap.size := fun b hb => h.rows.lt b ((Rw _ _).2 hb)
theorem OwQ.rd {m : Nat} {e : TypeId} {w : World} {a : Option Addr} {n c : Nat} {bs : List Int} (h : OwQ m e w a n c bs) : RdF m w ⟨e, a, n, c, bs⟩ := FR.own_rd h.rows
theorem OwQ.form {m : Nat} {e : TypeId} {w : World} {a : Option Addr} {n c : Nat} {bs : List Int} (h : OwQ m e w a n c bs) (h0 : 0 < n) : ∃ g, a = some ⟨g, 0, none⟩ ∧ n ≤ c ∧ c ≤ maxLen ∧ OwnF m e w g n c bs := by
 rcases FR.own_form h.rows with ⟨h1, h2, h3⟩ | ⟨g, h1, h2, h3, h4⟩
 ·dsimp only at h1; omega
 ·exact ⟨g, h1, h2, h3, h4⟩
theorem OwQ.max {m : Nat} {e : TypeId} {w : World} {a : Option Addr} {n c : Nat} {bs : List Int} (h : OwQ m e w a n c bs) : n ≤ maxLen := (h.rd).1
def f5 (p : StLogFrame) : F5 := (p.lsn, p.record.kind, p.record.txn, p.record.prev, p.record.uN)
def FrC (w : World) (b off : Nat) (ps : List StLogFrame) : Prop := ∀ j i, (h : j < ps.length) → i < 16 → w.cell? ⟨b, off + (j * 16 + i), none⟩ = (kFr.cells ps[j])[i]?
theorem FrC.same {w w' : World} {b off : Nat} {ps : List StLogFrame} (h : FrC w b off ps) (hk : Same w w') : FrC w' b off ps := fun j i hj hi => by
 have h1 := h j i hj hi
 rw [List.getElem?_eq_getElem (by rw [kFr.len]; exact hi)] at h1 ⊢
 exact hk.cellOf h1 id
theorem FrC.lsn {w : World} {b off : Nat} {ps : List StLogFrame} (h : FrC w b off ps) (k : Nat) (hk : k < ps.length) : w.cell? ⟨b, off + k * 16, none⟩ = some (.int .i64 (f5 ps[k]).1) := by
 have := h k 0 hk (by omega)
 simpa [kFr, StLogFrame.cells, f5] using this
section
variable {w wr wx : World} {lo : Nat} {la : Option Addr} {ln lc : Nat} {left : List Q4} {sa : Option Addr} {sn sc : Nat} {st : List U3}
end
theorem Xu {P : Program} {ct : Array Oper} {o : Oper} {a : Act} {w : World} {K : Act → World → Prop} {Q : Exit → Act → World → Prop} {E : Prop} (j1 : o.guard = none) (s x : Operand) (t tn : TypeId)
  (ho : o.op = .call { callee := .builtin .append, args := #[s, x], argTypes := #[t, tn] }) (vs vx : Value) (hs : a.eval s = vs) (hx : a.eval x = vx)
  (v' : Value) (w' : World) (hr : (Builtin.append_ #[t, tn] o.type #[vs, vx]).run P w = .ok v' w') (h : K (a.put o.dst v') w') : if Region.wanted o (yielded ct a.tmps) = true then Oper.wp P o a w K Q else E := by
 have hw : Region.wanted o (yielded ct a.tmps) = true := by simp [Region.wanted, j1]
 rw [if_pos hw]
 unfold Oper.wp execOp
 simp only [ho, resolve, invoke, builtin, Sem.run_bind, Sem.run_pure, Result.andThen_ok, List.map_toArray, List.map_cons, List.map_nil, hs, hx, hr]
 exact h
end Go.Proofs.YtaojjcnmififoaaGreat
