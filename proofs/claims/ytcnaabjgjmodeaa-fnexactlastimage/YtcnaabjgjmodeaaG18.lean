import Derived.Test.YtcnaabjgjmodeaaG01
import Derived.Test.YtcnaabjgjmodeaaG00
import Derived.Test.YtcnaabjgjmodeaaG06
import Derived.Test.YtcnaabjgjmodeaaRedoD
import Derived.Test.YtcnaabjgjmodeaaG11
import Derived.RangeFuncWrites
import Derived.RangeFuncCalls
import Derived.RangeFuncLeaves
import Derived.TacticsIn
import Derived.OrdersIn
import Derived.RangeFuncNested
import Derived.RangeFuncBound
import Derived.Shelf.Abstract
import Derived.WalkKit
import Derived.OwnWalkIn
import Derived.TacticsInMore
import Derived.LoopNIn
import Derived.LoopIn
import Derived.Deep.MidRow
import Derived.Deep.WholeRow
namespace Go.Proofs.Ytcnaabjgjmodeaa
open Go Go.RowKit
set_option linter.unusedVariables false
section
variable {P : Program} {ops : Array Oper} {Q : Exit → Act → World → Prop} {l m : Nat}
def noDefer (o : Oper) : Bool := match o.op with
  | .defer _ => false
  | _ => true
theorem noDefer_spec {o : Oper} (h : noDefer o = true) (c : Call) : o.op ≠ .defer c := fun e => by simp [noDefer, e] at h
theorem wp_round {o : Oper} {a : Act} {w : World} {K K' : Act → World → Prop} (hd : noDefer o = true) (hK : ∀ a w, K a w → K' a w) (h : o.wp P a w K Q) : o.wpIn (Fence.wide.inRound l) m P a w K' Q := by
  unfold Oper.wp at h
  refine ⟨fun _ _ => trivial, ?_⟩
  rw [show (Fence.wide.inRound l).round = some l from rfl, Oper.semAt_some l _ _ (noDefer_spec hd)]
  generalize (execOp a.eval o).run P w = r at h ⊢
  cases r with
  | ok x w' =>
    cases x <;> simp only [Oper.upon] at h <;> simp only [Oper.uponIn]
    all_goals first
      | exact hK _ _ h
      | exact h.elim
      | (refine ⟨fun h => by simp [Fence.wide, Fence.inRound] at h, ?_⟩
         refine CallsIn.inRound l (callsIn_wide.2 (Calls.mono h ?_))
         intro e w'' he
         cases e <;> first | exact hK _ _ he | exact he)
      | (refine ⟨fun h => by simp [Fence.wide, Fence.inRound] at h, ?_⟩
         intro c cs _
         obtain ⟨v, w'', hr, hs⟩ := h c cs
         exact ⟨v, w'', hK _ _ hr, stepsIn_wide.2 hs⟩)
  | halt x w' => cases x <;> simp only [Oper.upon] at h <;> simp only [Oper.uponIn] <;> exact h
theorem wpList_round (hLO : ¬ LetsOut Q) : ∀ (os : List Oper) (a : Act) (w : World), os.all noDefer = true → wpList P ops Q os a w → wpListIn (Fence.wide.inRound l) m P ops Q os a w
  | [], _, _, _, h => h
  | o :: os, a, w, hd, h => by
    simp only [List.all_cons, Bool.and_eq_true] at hd
    unfold wpList at h
    unfold wpListIn
    split
    · rename_i hw
      rw [if_pos hw] at h
      rcases h with h | h
      · exact wp_round hd.1 (fun a w hk => wpList_round hLO os a w hd.2 hk) h
      · exact absurd h.2 hLO
    · rename_i hw
      rw [if_neg hw] at h
      exact ⟨fun _ _ => trivial, wpList_round hLO os _ w hd.2 h⟩
theorem round_region {id : Nat} {os : List Oper} {a : Act} {w : World} (hLO : ¬ LetsOut Q) (hd : os.all noDefer = true) (h : wpList P os.toArray Q os a w) : (Code.region id os.toArray false).wpIn (Fence.wide.inRound l) m P Q a w :=
  wpIn_region_lit (wpList_round hLO os a w hd h)
theorem letsOut_then {K : Act → World → Prop} (h : ¬ LetsOut Q) : ¬ LetsOut (Exit.then K Q) := fun ⟨a, w, hq⟩ => h ⟨a, w, hq⟩
theorem letsOut_block {id : Nat} (h : ¬ LetsOut Q) : ¬ LetsOut (Exit.inBlock id Q) := fun ⟨a, w, hq⟩ => h ⟨a, w, hq⟩
theorem letsOut_ownG {α : Type} {B : Nat} {Kp : World → World → Prop} {I : List α → World → Prop} {Ix : Code → List α → World → Prop} {xs : List α} {W : World} : ¬ LetsOut (ownPostG B Kp I Ix xs W) := fun ⟨_, _, h⟩ => h
end
def Bare (B : Nat) (w : World) (b : Nat) : Prop := B ≤ b ∧ ∃ o : Obj, w.heap[b]? = some o ∧ o.isCells = false
theorem kept_turn {B : Nat} {W W' : World} {row : Option Nat} (hg : W.grownBy W' row) (hr : ∀ r, row = some r → B ≤ r ∧ ∃ o : Obj, W.heap[r]? = some o ∧ o.isCells = false) : Kept (Bare B W) W W' :=
  Kept.of_grown hg (fun k e => hr k e)
theorem Blk.not_bare {w : World} {b B : Nat} {e : TypeId} {vs : List Value} (h : Blk w b e vs) : ¬ Bare B w b := fun ⟨_, o, ho, hc⟩ => by
  rw [show w.heap[b]? = _ from h] at ho
  cases ho
  cases hc
theorem Own.not_bare {base : Nat} {e : TypeId} {k : IntKind} {w : World} {v : Value} {bs : List Int} {B b : Nat} (h : Own base e k w v bs) (hb : v.ownBlock = some b) : ¬ Bare B w b := fun ⟨_, o, ho, hc⟩ => by
  rcases h.2 with ⟨rfl, _⟩ | ⟨g, cap, cur, rfl, _, hg, _⟩
  · simp [Value.ownBlock] at hb
  · have : g = b := by simpa [Value.ownBlock] using hb
    subst this
    rw [hg] at ho
    cases ho
    cases hc
theorem OwnR.not_bare {E : Type} {K : RowK E} {base : Nat} {tw tb : TypeId} {w : World} {v : Value} {qs : List E} {B b : Nat} (h : OwnR K base tw tb w v qs) (hb : footR K v qs b) : ¬ Bare B w b := by
  rcases hb with hb | ⟨p, hp, hb⟩
  · rintro ⟨_, o, ho, hc⟩
    rcases h.row.2 with ⟨rfl, _⟩ | ⟨g, cap, cur, rfl, _, hg, _⟩
    · simp [Value.ownBlock] at hb
    · have : g = b := by simpa [Value.ownBlock] using hb
      subst this
      rw [hg] at ho
      cases ho
      cases hc
  · exact (h.data p hp).not_bare hb
theorem keepsFrom_of {R : Nat → Prop} {B : Nat} {W W' : World} (hk : Kept R W W') (hr : ∀ b, R b → ¬ Bare B W b) : KeepsFrom B W W' :=
  ⟨hk.size, fun k o hB ho hc => (hk.block k (Array.getElem?_eq_some_iff.1 ho).1 (fun e => hr k e ⟨hB, o, ho, hc⟩)).trans ho⟩
end Go.Proofs.Ytcnaabjgjmodeaa

namespace Go.Proofs.Ytcnaabjgjmodeaa
set_option maxRecDepth 100000
set_option maxHeartbeats 8000000
open Go Go.RowKit
set_option linter.unusedVariables false
set_option linter.unusedSimpArgs false
def fImg (d : FrD) : List Int := d.2.2.2.2.2.2.2.2.2.2.2.2.2
def isImg (page : Int) (d : FrD) : Prop := fKind d = 8 ∧ fPage d = page
def isImgDec (page : Int) (d : FrD) : Decidable (isImg page d) := inferInstanceAs (Decidable (_ ∧ _))
def lastI (page : Int) (ps : List StLogFrame) : Nat → Int × List Int
  | 0 => (1, [])
  | n + 1 => if h : n < ps.length then (@ite _ (isImg page ps[n].dat) (isImgDec page ps[n].dat) (0, fImg ps[n].dat) (lastI page ps n)) else lastI page ps n
def lastD' (ps : List StLogFrame) (page : Int) : Int × List Int := lastI page ps ps.length
theorem lastI_step (page : Int) (ps : List StLogFrame) (n : Nat) (h : n < ps.length) : lastI page ps (n + 1) = @ite _ (isImg page ps[n].dat) (isImgDec page ps[n].dat) (0, fImg ps[n].dat) (lastI page ps n) := dif_pos h
theorem lastI_dat (page : Int) {ps qs : List StLogFrame} (h : datFr ps = datFr qs) : ∀ n, lastI page ps n = lastI page qs n
  | 0 => rfl
  | n + 1 => by
    have hl : ps.length = qs.length := by rw [← datFr_length, ← datFr_length, h]
    have ih := lastI_dat page h n
    by_cases hn : n < ps.length
    · rw [lastI_step _ _ _ hn, lastI_step _ _ _ (by omega), datFr_at h n hn (by omega), ih]
    · have h1 : lastI page ps (n + 1) = lastI page ps n := dif_neg hn
      have h2 : lastI page qs (n + 1) = lastI page qs n := dif_neg (by omega)
      rw [h1, h2, ih]
theorem lastI_len {page : Int} {ps : List StLogFrame} (hp : ∀ p ∈ ps, p.szs ≤ 1048576) (hr : ∀ p ∈ ps, (p.record.txns.n : Int) ≥ 0) : ∀ n, ((lastI page ps n).2.length : Int) ≤ 1048576
  | 0 => by simp [lastI]
  | n + 1 => by
    have ih := lastI_len (page := page) hp hr n
    by_cases hn : n < ps.length
    · rw [lastI_step _ _ _ hn]
      split
      · have h := hp _ (List.getElem_mem hn)
        simp only [StLogFrame.szs, StLogRecord.szs, StPageRecord.szs] at h
        show ((ps[n].record.image.bs.length : Nat) : Int) ≤ 1048576
        omega
      · exact ih
    · have h1 : lastI page ps (n + 1) = lastI page ps n := dif_neg hn
      rw [h1]
      exact ih
theorem specLast_any (fv : Value) (ps : List StLogFrame) (page : Int) (w : World) (hfo : FrOK ps) (hf : RdFr w fv ps) :
    Calls Try.prog 31 #[fv, .int .i64 page] w fun e w' => SetAns 5 w w' e (lastD' ps page).1 (lastD' ps page).2 := by
  have HK0 := hid (sameA w [.int .i64 0, .slice none 0 0] 28)
  have HB0 := hid (Blk.newL w [.int .i64 0, .slice none 0 0] 28)
  have hlen := hfo.len
  have HFO := hid hfo
  have HF := hid hf
  obtain ⟨fa, fc, rfl⟩ := hf.form
  clear hfo hf
  unfold lastD'
  obtain ⟨len, hlen0⟩ : ∃ n, ps.length = n := ⟨_, rfl⟩
  have HL := hid hlen0
  rw [hlen0] at hlen ⊢
  clear hlen0
  obtain ⟨R, hR⟩ : ∃ R, lastI page ps len = R := ⟨_, rfl⟩
  have HR := hid hR
  rw [hR]
  clear hR
  go_enter Try.func31, Try.ntmps31
  go_wp2_with fail
  go_loopw [5] (fun i wr => ∃ k : Nat, k ≤ len ∧ i = .int .i64 ((k : Int) - 1) ∧ Hid (lastI page ps k = R) ∧ Hid (Same w wr) ∧ Hid (Blk wr w.heap.size 28 [.int .i64 0, .slice none 0 0])) (fun i _ => (intOf i + 1).toNat)
  case atStart => exact ⟨len, Nat.le_refl _, rfl, HR, HK0, HB0⟩
  case round =>
    obtain ⟨k, hk, rfl, HE, HK, HB⟩ := hrel
    obtain ⟨d0, d1⟩ := HB.out.all2
    have ff := HB.out.frozen
    have hlt0 := HB.out.lt
    cases k with
    | zero =>
      rw [show ((0 : Nat) : Int) - 1 = -1 from rfl]
      go_wp2
      rw [← HE.out]
      refine bodyPost_ret (v := .agg #[.int .i64 1, .slice none 0 0]) (by simp [results, Try.results31, go_sem, d0, d1]) rfl (SetAns.none 1 ?_)
      exact (HK.out.setCell (p := ⟨w.heap.size, 0, none⟩) (.inl (Nat.le_refl _)) _).setCell (p := ⟨w.heap.size, 1, none⟩) (.inl (Nat.le_refl _)) _
    | succ k =>
    rw [show ((k + 1 : Nat) : Int) - 1 = (k : Int) from by omega]
    have hlp : k < ps.length := by rw [HL.out]; omega
    obtain ⟨b, off, fc', hfa, hcell⟩ : ∃ b off c, Value.slice fa len fc = .slice (some ⟨b, off, none⟩) len c ∧ ∀ j i, (h : j < ps.length) → i < 16 → w.cell? ⟨b, off + (j * 16 + i), none⟩ = (kFr.cells ps[j])[i]? := by
      rcases HF.out.row.row with ⟨h, _⟩ | ⟨b, off, c, h, hc⟩
      · rw [h] at hlp; simp at hlp
      · exact ⟨b, off, c, by rw [← HL.out]; exact h, hc⟩
    injection hfa with hfa _ hfc
    subst hfa hfc
    have q2 : wr.cell? ⟨b, off + k * 16 + 2, none⟩ = some (.int .i64 ps[k].record.kind) := HK.out.cellOf (by have h := hcell k 2 hlp (by decide); rw [← Nat.add_assoc] at h; exact h) id
    have q5 : wr.cell? ⟨b, off + k * 16 + 2 + 3, none⟩ = some (.int .i64 ps[k].record.page) := HK.out.cellOf (by have h := hcell k 5 hlp (by decide); rw [show off + (k * 16 + 5) = off + k * 16 + 2 + 3 from by omega] at h; exact h) id
    have q15 : wr.cell? ⟨b, off + k * 16 + 2 + 13, none⟩ = some ps[k].record.image.v := HK.out.cellOf (by have h := hcell k 15 hlp (by decide); rw [show off + (k * 16 + 15) = off + k * 16 + 2 + 13 from by omega] at h; exact h) id
    have HPD := hid ((HF.out.data _ (List.getElem_mem hlp)).same HK.out)
    have HPZ := hid (HFO.out.each _ (List.getElem_mem hlp))
    have HST := (show Hid ((isImg page ps[k].dat → lastI page ps (k + 1) = (0, ps[k].record.image.bs)) ∧ (¬ isImg page ps[k].dat → lastI page ps (k + 1) = lastI page ps k)) from ⟨fun h => by rw [lastI_step page ps k hlp, if_pos h]; rfl, fun h => by rw [lastI_step page ps k hlp, if_neg h]⟩)
    have HIM := (show Hid (isImg page ps[k].dat ↔ (ps[k].record.kind = 8 ∧ ps[k].record.page = page)) from Iff.rfl)
    have HRD := (show Hid (Rd .u8 wr ps[k].record.image.v ps[k].record.image.bs) from HPD.out.2.2.2.2)
    have HDN := (show Hid (ps[k].record.image.bs.length ≤ 1099511627776) from by
      have h := HPZ.out
      have h1 := HPD.out.2.2.1.2.1
      have h2 := HPD.out.2.2.2.1.2.1
      simp only [StLogFrame.szs, StLogRecord.szs, StPageRecord.szs] at h
      unfold Hid
      omega)
    obtain ⟨ta, tc, hta⟩ : ∃ ta tc, ps[k].record.image.v = .slice ta ps[k].record.image.bs.length tc := ⟨_, _, rfl⟩
    rw [hta] at q15 HRD
    generalize isImg page ps[k].dat = IM at HST HIM
    generalize ps[k].record.kind = kd at q2 HIM
    generalize ps[k].record.page = pg at q5 HIM
    generalize ps[k].record.image.bs = im at HST HRD HDN q15
    clear hta hcell HPD HPZ
    by_cases h8 : kd = 8
    case neg =>
      have e8 : (kd == 8) = false := by simp [h8]
      have HN : Hid (lastI page ps k = R) := by
        have h1 := HE.out
        rw [HST.out.2 (fun h => h8 (HIM.out.1 h).1)] at h1
        exact h1
      go_wp2_with fail
      go_roundw
      case rel => exact ⟨k, by omega, by first | rfl | go_num, HN, HK, HB⟩
      case measure => simp [intOf]
    subst h8
    by_cases hp : pg = page
    case neg =>
      have e8 : (pg == page) = false := by simp [hp]
      have HN : Hid (lastI page ps k = R) := by
        have h1 := HE.out
        rw [HST.out.2 (fun h => hp (HIM.out.1 h).2)] at h1
        exact h1
      go_wp2_with fail
      go_roundw
      case rel => exact ⟨k, by omega, by first | rfl | go_num, HN, HK, HB⟩
      case measure => simp [intOf]
    subst hp
    have HN : Hid ((0, im) = R) := by
      have h1 := HE.out
      rw [HST.out.1 (HIM.out.2 ⟨rfl, rfl⟩)] at h1
      exact h1
    clear HE HST HIM HR
    have kC := l1Copy_any (.slice ta im.length tc) im wr HDN.out HRD.out
    generalize im.length = imn at q15 kC
    go_wp2_with fail
    refine kC.mono ?_
    rintro e w2 ⟨a2, n2, c2, rfl, ho2, hf2, hk2⟩
    have HK2 := hid (HK.out.trans hk2)
    have HB2 := hid (HB.out.same hk2)
    have HO2 := hid ho2
    have HF2 := (show Hid (∀ b, (Value.slice a2 n2 c2).ownBlock = some b → w.heap.size < b) from fun b hb => by have := hf2 b hb; omega)
    have HLN := (show Hid (im.length = n2) from by
      rcases ho2.form with ⟨h1, h2⟩ | ⟨g, cap, h, _⟩
      · cases h1; rw [h2]; rfl
      · cases h; rfl)
    clear d0 d1 ff hlt0 ho2 hf2 hk2 q2 q5 q15
    obtain ⟨d0, d1⟩ := HB2.out.all2
    have ff := HB2.out.frozen
    have hlt0 := HB2.out.lt
    go_wp2
    have hko : Kept (fun b => b = w.heap.size) w2 ((w2.setCell ⟨w.heap.size, 0, none⟩ (.int .i64 0)).setCell ⟨w.heap.size, 1, none⟩ (.slice a2 n2 c2)) := ((Kept.refl (fun b => b = w.heap.size) w2).setCell (p := ⟨w.heap.size, 0, none⟩) (.inr rfl) _).setCell (p := ⟨w.heap.size, 1, none⟩) (.inr rfl) _
    rw [← HN.out]
    refine bodyPost_ret (v := .agg #[.int .i64 0, .slice a2 n2 c2]) (by simp [results, Try.results31, go_sem, d0, d1]) rfl ⟨a2, c2, by simp only [HLN.out], fun b hb => ?_, ?_, ?_⟩
    · simp only [HLN.out] at hb
      exact Nat.le_of_lt (HF2.out b hb)
    · simp only [HLN.out]
      exact HO2.out.kept hko (fun b hb e => by have := HF2.out b hb; omega)
    · exact (HK2.out.setCell (p := ⟨w.heap.size, 0, none⟩) (.inl (Nat.le_refl _)) _).setCell (p := ⟨w.heap.size, 1, none⟩) (.inl (Nat.le_refl _)) _
end Go.Proofs.Ytcnaabjgjmodeaa

namespace Go.Proofs.Ytcnaabjgjmodeaa
set_option maxRecDepth 100000
set_option maxHeartbeats 4000000
open Go Go.RowKit Go.Shelf
set_option linter.unusedVariables false
set_option linter.unusedSimpArgs false
theorem backward_any (fa : Option Addr) (n fc : Nat) (w : World) : Calls Try.prog 70 #[.slice fa n fc] w fun e w' =>
    e = .returned (.func (.func 91) #[] #[.pointer (some ⟨w.heap.size, 0, none⟩)]) ∧ Blk w' w.heap.size 48 [.slice fa n fc] ∧ w'.heap.size = w.heap.size + 1 ∧ Same w w' := by
  have H0 := hid (Blk.newL w [.slice fa n fc] 48)
  have hmf : ∀ (fn : Fn) (first cap : Array Value) (w : World), (Instr.makeFunc fn first cap).run Try.prog w = .ok (.func fn first cap) w := fun _ _ _ _ => rfl
  go_enter Try.func70, Try.ntmps70
  go_wp2
  go_ret
  exact ⟨rfl, H0.out, by simp [World.size_alloc], (Kept.refl _ _).alloc _⟩
def bwE (ps : List StLogFrame) (M : Nat) (h : ps.length = M) (x : Fin M) : StLogFrame := ps[M - 1 - x.val]'(by have := x.isLt; omega)
def bwV (ps : List StLogFrame) (M : Nat) (h : ps.length = M) (x : Fin M) : Array Value := #[.int .i64 ((M : Int) - 1 - (x.val : Int)), .agg (kFr.cells (bwE ps M h x)).toArray]
theorem back_stops (n b M : Nat) (fa : Option Addr) (fc : Nat) (ps : List StLogFrame) (hM : ps.length = M) (w : World) (hb : Blk w b 48 [.slice fa M fc]) (hf : RdFr w (.slice fa M fc) ps) (hlen : M ≤ 1048576) :
    SeqStopsK Fence.wide n Try.prog 91 #[.pointer (some ⟨b, 0, none⟩)] (bwV ps M hM) (Below w.heap.size) (fun xs => xs.map Fin.val = List.range M) (fun pre => pre.map Fin.val = List.range pre.length) M w := by
  intro l J Jx W hW hJ hJx hY hJ0
  have HS0 := (show Hid (Same w W) from Kept.of_below hW)
  have HB := hid hb
  have HF := hid hf
  have HJ0 := hid hJ0
  have HJ := hid hJ
  have HY := hid hY
  have c0 := (hb.same HS0.out).c0
  clear hb hf hW hJ0 hJ hJx hY
  refine callsIn_of_wp Try.func91 rfl trivial ?_ rfl
  simp only [Try.ntmps91, List.size_toArray, List.length_cons, List.length_nil, Nat.reduceAdd, Nat.reduceSub, Array.replicate_succ, Array.replicate_zero, List.push_toArray, List.append_toArray, List.nil_append, List.cons_append]
  gi_wp2
  clear c0
  gi_loopw [3] (fun i wr => ∃ (k : Nat) (pre : List (Fin M)), k ≤ M ∧ i = .int .i64 ((M : Int) - 1 - (k : Int)) ∧ Hid (pre.map Fin.val = List.range k) ∧ Hid (Same w wr) ∧ Hid (J pre wr)) (fun i _ => (intOf i + 1).toNat)
  case atStart => exact ⟨0, [], Nat.zero_le _, by simp, rfl, HS0, HJ0⟩
  case round =>
    obtain ⟨k, pre, hk, rfl, HP, HS, HJk⟩ := hrel
    have d0 := (HB.out.same HS.out).c0
    by_cases hkM : k < M
    · obtain ⟨j, hj⟩ : ∃ j, M - 1 - k = j := ⟨_, rfl⟩
      have hjM : j < M := by omega
      have hji : (M : Int) - 1 - (k : Int) = (j : Int) := by omega
      rw [hji]
      have hlp : j < ps.length := by omega
      obtain ⟨bb, off, fc', hfa, hcell⟩ : ∃ b off c, Value.slice fa M fc = .slice (some ⟨b, off, none⟩) M c ∧ ∀ j i, (h : j < ps.length) → i < 16 → w.cell? ⟨b, off + (j * 16 + i), none⟩ = (kFr.cells ps[j])[i]? := by
        rcases HF.out.row.row with ⟨h, _⟩ | ⟨b, off, c, h, hc⟩
        · rw [h] at hlp; simp at hlp
        · exact ⟨b, off, c, by rw [← hM]; exact (by rw [hM] at h ⊢; exact h), hc⟩
      injection hfa with hfa _ hfc
      subst hfa hfc
      obtain ⟨cs, hcs⟩ : ∃ cs, kFr.cells ps[j] = cs := ⟨_, rfl⟩
      have hcl : cs.length = 16 := by rw [← hcs]; exact kFr.len _
      have hrg : wr.rangeAt bb (off + j * 16) cs := fun i v hv => by
        have hi : i < 16 := by have := (List.getElem?_eq_some_iff.1 hv).1; omega
        have h := hcell j i hlp hi
        rw [hcs, hv, ← Nat.add_assoc] at h
        exact HS.out.cellOf h id
      obtain ⟨a0, a1, a2, a3, a4, a5, a6, a7, a8, a9, a10, a11, a12, a13, a14, a15, rfl⟩ := list16 hcl
      have q0 : wr.cell? ⟨bb, off + j * 16, none⟩ = some a0 := hrg 0 a0 rfl
      have q1 : wr.cell? ⟨bb, off + j * 16 + 1, none⟩ = some a1 := hrg 1 a1 rfl
      have q2 : wr.cell? ⟨bb, off + j * 16 + 2, none⟩ = some a2 := hrg 2 a2 rfl
      have q3 : wr.cell? ⟨bb, off + j * 16 + 3, none⟩ = some a3 := hrg 3 a3 rfl
      have q4 : wr.cell? ⟨bb, off + j * 16 + 4, none⟩ = some a4 := hrg 4 a4 rfl
      have q5 : wr.cell? ⟨bb, off + j * 16 + 5, none⟩ = some a5 := hrg 5 a5 rfl
      have q6 : wr.cell? ⟨bb, off + j * 16 + 6, none⟩ = some a6 := hrg 6 a6 rfl
      have q7 : wr.cell? ⟨bb, off + j * 16 + 7, none⟩ = some a7 := hrg 7 a7 rfl
      have q8 : wr.cell? ⟨bb, off + j * 16 + 8, none⟩ = some a8 := hrg 8 a8 rfl
      have q9 : wr.cell? ⟨bb, off + j * 16 + 9, none⟩ = some a9 := hrg 9 a9 rfl
      have q10 : wr.cell? ⟨bb, off + j * 16 + 10, none⟩ = some a10 := hrg 10 a10 rfl
      have q11 : wr.cell? ⟨bb, off + j * 16 + 11, none⟩ = some a11 := hrg 11 a11 rfl
      have q12 : wr.cell? ⟨bb, off + j * 16 + 12, none⟩ = some a12 := hrg 12 a12 rfl
      have q13 : wr.cell? ⟨bb, off + j * 16 + 13, none⟩ = some a13 := hrg 13 a13 rfl
      have q14 : wr.cell? ⟨bb, off + j * 16 + 14, none⟩ = some a14 := hrg 14 a14 rfl
      have q15 : wr.cell? ⟨bb, off + j * 16 + 15, none⟩ = some a15 := hrg 15 a15 rfl
      have hEV : bwV ps M hM ⟨k, hkM⟩ = #[.int .i64 (j : Int), .agg #[a0, a1, a2, a3, a4, a5, a6, a7, a8, a9, a10, a11, a12, a13, a14, a15]] := by
        unfold bwV bwE
        simp only [hji]
        have e : ∀ (q : Nat) (hq : q < ps.length), q = j → kFr.cells (ps[q]'hq) = [a0, a1, a2, a3, a4, a5, a6, a7, a8, a9, a10, a11, a12, a13, a14, a15] := fun q hq e => by subst e; exact hcs
        rw [e _ _ hj]
      have hpl : pre.length = k := by have := congrArg List.length HP.out; simpa using this
      obtain ⟨fn, tmps, assign, body, hy, hR⟩ := HY.out pre ⟨k, hkM⟩ wr HJk.out (by omega)
      rw [hEV] at hy
      have HR := hid hR
      have HP2 := (show Hid ((pre ++ [(⟨k, hkM⟩ : Fin M)]).map Fin.val = List.range (k + 1)) from by unfold Hid; rw [List.map_append, HP.out, List.range_succ]; rfl)
      clear hcell hcs hrg hR hEV hj
      gi_wp2
      refine ⟨fun h => by simp [Fence.wide] at h, ?_⟩
      refine HR.out.mono ?_
      rintro e W3 (⟨rfl, hJ3, hk3⟩ | ⟨rfl, hJx3⟩)
      · have HJ3 := hid hJ3
        have HS3 := (show Hid (Same w W3) from Kept.of_below ((HS.out.below (Nat.le_refl _) (fun _ _ => id)).trans hk3))
        clear hJ3 hk3 HR hy
        gi_wp2
        go_roundw
        case rel => exact ⟨k + 1, _, by omega, by first | (congr 1; omega) | go_num, HP2, HS3, HJ3⟩
        case measure => simp only [intOf]; omega
      · clear HR hy
        gi_wp2
        refine bodyPost_ret (results_none rfl _ _ _) rfl ?_
        refine ⟨⟨_, rfl⟩, .inr ⟨_, ?_, hJx3⟩⟩
        rw [HP2.out, List.length_append, hpl]
        rfl
    · obtain rfl : k = M := by omega
      have hneg : (k : Int) - 1 - (k : Int) = -1 := by omega
      rw [hneg]
      gi_wp2
      go_end0
      exact ⟨⟨_, rfl⟩, .inl ⟨pre, HP.out, HJk.out⟩⟩
end Go.Proofs.Ytcnaabjgjmodeaa

namespace Go.Proofs.Ytcnaabjgjmodeaa
set_option maxRecDepth 100000
set_option maxHeartbeats 8000000
open Go Go.RowKit
set_option linter.unusedVariables false
set_option linter.unusedSimpArgs false
theorem lastI_none (page : Int) (ps : List StLogFrame) (M : Nat) (hM : ps.length = M) : ∀ (k : Nat) (pre : List (Fin M)), k ≤ M → pre.map Fin.val = List.range k → (∀ x ∈ pre, ¬ isImg page (bwE ps M hM x).dat) → lastI page ps M = lastI page ps (M - k)
  | 0, _, _, _, _ => rfl
  | k + 1, pre, hk, hp, hn => by
    have hl : pre.length = k + 1 := by have := congrArg List.length hp; simpa using this
    have h1 : (pre.take k).map Fin.val = List.range k := by rw [List.map_take, hp, List.take_range]; congr 1; omega
    rw [lastI_none page ps M hM k (pre.take k) (by omega) h1 (fun x hx => hn x (List.mem_of_mem_take hx))]
    have h2 : M - k = (M - (k + 1)) + 1 := by omega
    rw [h2, lastI_step _ _ _ (by omega), if_neg]
    have hm := hn (pre[k]'(by omega)) (List.getElem_mem _)
    have hv : (pre[k]'(by omega)).val = k := by
      have h3 : (pre.map Fin.val)[k]'(by simp; omega) = (List.range (k + 1))[k]'(by simp) := by simp only [hp]
      simpa using h3
    unfold bwE at hm
    have e : ∀ (q : Nat) (hq : q < ps.length), q = M - (k + 1) → ps[q]'hq = ps[M - (k + 1)]'(by omega) := fun q hq e => by subst e; rfl
    rw [e _ _ (by rw [hv]; omega)] at hm
    exact hm
theorem lastI_found (page : Int) (ps : List StLogFrame) (M : Nat) (hM : ps.length = M) (pre : List (Fin M)) (x : Fin M) (hp : (pre ++ [x]).map Fin.val = List.range (pre ++ [x]).length) (hn : ∀ y ∈ pre, ¬ isImg page (bwE ps M hM y).dat) (hx : isImg page (bwE ps M hM x).dat) : lastI page ps M = (0, fImg (bwE ps M hM x).dat) := by
  rw [List.map_append, List.length_append, List.length_singleton, List.range_succ] at hp
  obtain ⟨h1, h2⟩ := List.append_inj hp (by simp)
  have hv : x.val = pre.length := by simpa using h2
  have hlt := x.isLt
  rw [lastI_none page ps M hM pre.length pre (by omega) h1 hn]
  have h3 : M - pre.length = (M - 1 - x.val) + 1 := by omega
  rw [h3, lastI_step _ _ _ (by omega)]
  exact if_pos hx
def LvI (w w2 : World) (page : Int) (ps : List StLogFrame) (M : Nat) (hM : ps.length = M) (pre : List (Fin M)) (W : World) : Prop :=
  (∀ x ∈ pre, ¬ isImg page (bwE ps M hM x).dat) ∧ Blk W w.heap.size 2 [.int .i64 page] ∧ Blk W (w.heap.size + 1) 28 [.int .i64 0, .slice none 0 0] ∧ Same w2 W
theorem LvI.own (w w2 : World) (page : Int) (ps : List StLogFrame) (M : Nat) (hM : ps.length = M) : OwnFrom w2.heap.size (LvI w w2 page ps M hM) := by
  rintro pre W W' row ⟨h1, h2, h3, hk⟩ hg hr
  have hk2 := kept_turn hg hr
  exact ⟨h1, h2.kept hk2 h2.not_bare, h3.kept hk2 h3.not_bare, hk.next hk2 (fun i hi e => by have := e.1; omega)⟩
def LvX (w w2 : World) (page : Int) (ps : List StLogFrame) (M : Nat) (hM : ps.length = M) (c : Code) (pre : List (Fin M)) (W : World) : Prop :=
  c = .ret ∧ ∃ (pr : List (Fin M)) (x : Fin M) (a : Option Addr) (n cc : Nat), pre = pr ++ [x] ∧ (∀ y ∈ pr, ¬ isImg page (bwE ps M hM y).dat) ∧ isImg page (bwE ps M hM x).dat ∧ Blk W (w.heap.size + 1) 28 [.int .i64 0, .slice a n cc] ∧
    Own 0 5 .u8 W (.slice a n cc) (fImg (bwE ps M hM x).dat) ∧ (∀ b, (Value.slice a n cc).ownBlock = some b → w2.heap.size ≤ b) ∧ Same w W
theorem LvX.own (w w2 : World) (hw : w.heap.size ≤ w2.heap.size) (page : Int) (ps : List StLogFrame) (M : Nat) (hM : ps.length = M) (c : Code) : OwnFrom w2.heap.size (LvX w w2 page ps M hM c) := by
  rintro pre W W' row ⟨h0, pr, x, a, n, cc, h1, h2, h3, h4, h5, h6, hk⟩ hg hr
  have hk2 := kept_turn hg hr
  exact ⟨h0, pr, x, a, n, cc, h1, h2, h3, h4.kept hk2 h4.not_bare, h5.kept hk2 (fun b hb => h5.not_bare hb), h6, hk.next hk2 (fun i hi e => by have := e.1; omega)⟩
def LvA (w2 : World) (ps : List StLogFrame) (M : Nat) (hM : ps.length = M) (f : Fin M → Nat → Act) (x : Fin M) (a' : Act) (W : World) : Prop :=
  ∃ Bx, w2.heap.size ≤ Bx ∧ Blk W Bx 101 (kFr.cells (bwE ps M hM x)) ∧ a' = f x Bx
theorem LvA.own (w2 : World) (ps : List StLogFrame) (M : Nat) (hM : ps.length = M) (f : Fin M → Nat → Act) (x : Fin M) (a' : Act) : OwnFrom w2.heap.size (fun (_ : Unit) W => LvA w2 ps M hM f x a' W) := by
  rintro _ W W' row ⟨Bx, h1, h2, h3⟩ hg hr
  exact ⟨Bx, h1, h2.kept (kept_turn hg hr) h2.not_bare, h3⟩
theorem implLast_any (fv : Value) (ps : List StLogFrame) (page : Int) (w : World) (hfo : FrOK ps) (hf : RdFr w fv ps) :
    Calls Try.prog 33 #[fv, .int .i64 page] w fun e w' => SetAns 5 w w' e (lastD' ps page).1 (lastD' ps page).2 := by
  have hlen := hfo.len
  have HFO := hid hfo
  have HF := hid hf
  obtain ⟨fa, fc, rfl⟩ := hf.form
  clear hfo hf
  unfold lastD'
  obtain ⟨M, hM⟩ : ∃ n, ps.length = n := ⟨_, rfl⟩
  rw [hM] at hlen HF ⊢
  obtain ⟨R, hR⟩ : ∃ R, lastI page ps M = R := ⟨_, rfl⟩
  have HR := hid hR
  rw [hR]
  clear hR
  have HM := hid hM
  have HB0 := hid (Blk.newA w [.int .i64 page] 2 [.int .i64 0, .slice none 0 0] 28)
  have HB1 := hid (Blk.newB w [.int .i64 page] 2 [.int .i64 0, .slice none 0 0] 28)
  have HK1 := (show Hid (Same w ((w.alloc (.cells #[.int .i64 page] 2)).alloc (.cells #[.int .i64 0, .slice none 0 0] 28))) from ((Kept.refl _ _).alloc _).alloc _)
  have HBS := (fun k (h : Blk ((w.alloc (.cells #[.int .i64 page] 2)).alloc (.cells #[.int .i64 0, .slice none 0 0] 28)) k 2 []) => True.intro)
  clear HBS
  have kB := backward_any fa M fc ((w.alloc (.cells #[.int .i64 page] 2)).alloc (.cells #[.int .i64 0, .slice none 0 0] 28))
  simp only [World.size_alloc] at kB
  refine callsIn_wide.1 (callsIn_of_wp_marks (F := Fence.wide) (n := 3) Try.func33 rfl trivial (wpIn_wide.2 ?_) rfl)
  simp only [Try.ntmps33, List.size_toArray, List.length_cons, List.length_nil, Nat.reduceAdd, Nat.reduceSub, Array.replicate_succ, Array.replicate_zero, List.push_toArray, List.append_toArray, List.nil_append, List.cons_append]
  go_wp2_with fail
  refine kB.mono ?_
  rintro e w2 ⟨rfl, hbx, hz2, hk2⟩
  have HB02 := hid (HB0.out.same hk2)
  have HB12 := hid (HB1.out.same hk2)
  have HK2 := hid (HK1.out.trans hk2)
  have HBX := hid hbx
  have hz2 : w2.heap.size = w.heap.size + 3 := by rw [hz2]
  clear hbx hk2 kB HB0 HB1 HK1
  go_wp2_with fail
  have HF2 := hid (HF.out.same HK2.out)
  have hzz := HK2.out.size
  refine (wpIn_wide (n := 3)).1 ?_
  refine wpIn_rangeFunc_ownH (F := Fence.wide) (n := 3) rfl (by decide) (gf := 91) (lb := #[.pointer (some ⟨w.heap.size + 1 + 1, 0, none⟩)]) rfl trivial (enters_of Try.func91 (by kernel_rfl) rfl)
    (back_stops 2 (w.heap.size + 1 + 1) M fa fc ps hM w2 HBX.out HF2.out hlen) belowK_t (belowK_b (Nat.le_refl _)) (Below.refl _ _) (fun _ => rfl)
    (LvI w w2 page ps M hM) (LvX w w2 page ps M hM) (LvI.own w w2 page ps M hM) (LvX.own w w2 hzz page ps M hM)
    ⟨fun x hx => absurd hx List.not_mem_nil, HB02.out, HB12.out, Kept.refl _ _⟩
    (LvA w2 ps M hM (fun (x : Fin M) (Bx : Nat) => { tmps := #[.slice fa M fc, .int .i64 page, undef, .pointer (some ⟨w.heap.size, 0, none⟩), .pointer (some ⟨w.heap.size + 1, 0, none⟩), undef, .pointer (some ⟨Bx, 0, none⟩), .slice fa M fc, .func (.func 91) #[] #[.pointer (some ⟨w.heap.size + 1 + 1, 0, none⟩)], .int .i64 ((M : Int) - 1 - (x.val : Int)), .agg (kFr.cells (bwE ps M hM x)).toArray, undef, undef, undef, undef, undef, undef, undef, undef, undef, undef, undef, undef, undef, undef, undef, undef, undef], defers := [] })) (LvA.own w2 ps M hM _) ?assign ?body ?done ?stop
  case assign =>
    rintro l pre x W K ⟨h1, h2, h3, h4⟩ hK
    obtain ⟨cs, hcs⟩ : ∃ cs, kFr.cells (bwE ps M hM x) = cs := ⟨_, rfl⟩
    have hcl : cs.length = 16 := by rw [← hcs]; exact kFr.len _
    have hone : cs.toArray.all (·.oneCell') = true := all_oneCell_toArray (fun v hv => by
      rw [← hcs] at hv
      simp only [kFr, StLogFrame.cells, List.mem_cons, List.not_mem_nil, or_false] at hv
      rcases hv with rfl | rfl | rfl | rfl | rfl | rfl | rfl | rfl | rfl | rfl | rfl | rfl | rfl | rfl | rfl | rfl <;> rfl)
    have hst := run_storeCells_new (P := Try.prog) W 101 #[.int .i64 0, .int .i64 0, .int .i64 0, .int .i64 0, .int .i64 0, .int .i64 0, .int .i64 0, .bool false, .slice none 0 0, .bool false, .slice none 0 0, .int .i64 0, .int .i64 0, .slice none 0 0, .slice none 0 0, .slice none 0 0] cs.toArray (by rw [List.size_toArray, hcl]; kernel_rfl) (by simp [hcl]) hone
    rw [List.toList_toArray] at hst
    have HH := (show Hid (K ((fun (x : Fin M) (Bx : Nat) => { tmps := #[.slice fa M fc, .int .i64 page, undef, .pointer (some ⟨w.heap.size, 0, none⟩), .pointer (some ⟨w.heap.size + 1, 0, none⟩), undef, .pointer (some ⟨Bx, 0, none⟩), .slice fa M fc, .func (.func 91) #[] #[.pointer (some ⟨w.heap.size + 1 + 1, 0, none⟩)], .int .i64 ((M : Int) - 1 - (x.val : Int)), .agg (kFr.cells (bwE ps M hM x)).toArray, undef, undef, undef, undef, undef, undef, undef, undef, undef, undef, undef, undef, undef, undef, undef, undef, undef], defers := [] }) x W.heap.size) (W.alloc (.cells cs.toArray 101))) from hK _ _ (keepsFrom_of (R := fun _ => False) ((Kept.refl _ _).alloc _) (fun b e => e.elim)) (((Kept.refl (fun _ => False) W).alloc _).below h4.size (fun _ _ => id)) ⟨h1, h2.alloc _, h3.alloc _, h4.alloc _⟩ ⟨W.heap.size, h4.size, by rw [hcs]; exact Blk.newL W cs _, rfl⟩)
    dsimp only at HH
    rw [hcs] at HH
    dsimp only [bwV]
    rw [hcs]
    clear hcs hone
    refine round_region (letsOut_then (fun ⟨_, _, h⟩ => h)) rfl ?_
    go_wp2
    exact HH.out
  case body =>
    rintro l pre x a' W hl ⟨r, hr⟩ ⟨h1, h2, h3, h4⟩ ⟨Bx, hBx, hblk, rfl⟩ hlt
    dsimp only
    have e2 : W.cell? ⟨Bx, 2, none⟩ = some (.int .i64 (bwE ps M hM x).record.kind) := hblk.cell 2
    have e5 : W.cell? ⟨Bx, 5, none⟩ = some (.int .i64 (bwE ps M hM x).record.page) := hblk.cell 5
    have e15 : W.cell? ⟨Bx, 15, none⟩ = some (bwE ps M hM x).record.image.v := hblk.cell 15
    have p0 := h2.c0
    have hmem : bwE ps M hM x ∈ ps := List.getElem_mem _
    have HPD := hid (((HF.out.data _ hmem).same HK2.out).same h4)
    have HPZ := hid (HFO.out.each _ hmem)
    have HIM := (show Hid (isImg page (bwE ps M hM x).dat ↔ ((bwE ps M hM x).record.kind = 8 ∧ (bwE ps M hM x).record.page = page)) from Iff.rfl)
    have HFI := (show Hid (fImg (bwE ps M hM x).dat = (bwE ps M hM x).record.image.bs) from rfl)
    have HRD := (show Hid (Rd .u8 W (bwE ps M hM x).record.image.v (bwE ps M hM x).record.image.bs) from HPD.out.2.2.2.2)
    have HDN := (show Hid ((bwE ps M hM x).record.image.bs.length ≤ 1099511627776) from by
      have h := HPZ.out
      have h1 := HPD.out.2.2.1.2.1
      have h2 := HPD.out.2.2.2.1.2.1
      simp only [StLogFrame.szs, StLogRecord.szs, StPageRecord.szs] at h
      unfold Hid
      omega)
    obtain ⟨ta, tc, hta⟩ : ∃ ta tc, (bwE ps M hM x).record.image.v = .slice ta (bwE ps M hM x).record.image.bs.length tc := ⟨_, _, rfl⟩
    rw [hta] at e15 HRD
    generalize (bwE ps M hM x).record.kind = kd at e2 HIM
    generalize (bwE ps M hM x).record.page = pg at e5 HIM
    generalize (bwE ps M hM x).record.image.bs = im at e15 HRD HDN HFI
    generalize (kFr.cells (bwE ps M hM x)).toArray = ea
    clear hta HPD HPZ hblk hmem hr
    have HGO := (show Hid (¬ isImg page (bwE ps M hM x).dat → LvI w w2 page ps M hM (pre ++ [x]) W) from fun h => ⟨fun y hy => by rcases List.mem_append.1 hy with hy | hy; exact h1 y hy; rw [List.mem_singleton.1 hy]; exact h, h2, h3, h4⟩)
    by_cases h8 : kd = 8
    case neg =>
      have e8 : (kd == 8) = false := by simp [h8]
      refine wpIn_block (wpIn_seq (round_region (letsOut_then (letsOut_block letsOut_ownG)) rfl ?_))
      go_wp2
      refine wpIn_cond_false rfl (wpIn_skip ?_)
      exact ⟨keepsFrom_of (R := fun _ => False) (Kept.refl _ _) (fun b e => e.elim), Below.refl _ _, HGO.out (fun h => h8 (HIM.out.1 h).1)⟩
    subst h8
    by_cases hp : pg = page
    case neg =>
      have e8 : (pg == page) = false := by simp [hp]
      refine wpIn_block (wpIn_seq (round_region (letsOut_then (letsOut_block letsOut_ownG)) rfl ?_))
      go_wp2
      refine wpIn_cond_false rfl (wpIn_skip ?_)
      exact ⟨keepsFrom_of (R := fun _ => False) (Kept.refl _ _) (fun b e => e.elim), Below.refl _ _, HGO.out (fun h => hp (HIM.out.1 h).2)⟩
    subst hp
    have HX := hid (HIM.out.2 ⟨rfl, rfl⟩)
    clear HGO HIM
    refine wpIn_block (wpIn_seq (round_region (letsOut_then (letsOut_block letsOut_ownG)) rfl ?_))
    go_wp2
    refine wpIn_cond_true rfl (wpIn_seq (round_region (letsOut_then (letsOut_block letsOut_ownG)) rfl ?_))
    have kC := clone_any (.slice ta im.length tc) im W HDN.out HRD.out
    generalize im.length = imn at e15 kC
    go_wp2_with fail
    refine kC.mono ?_
    rintro e w5 ⟨a5, n5, c5, rfl, ho5, hf5, hk5⟩
    have HB5 := hid (h3.same hk5)
    have HK5 := hid hk5
    have HO5 := hid ho5
    have hzW := h4.size
    have HF5 := (show Hid (∀ b, (Value.slice a5 n5 c5).ownBlock = some b → w2.heap.size ≤ b) from fun b hb => by have := hf5 b hb; omega)
    obtain ⟨d0, d1⟩ := HB5.out.all2
    have ff := HB5.out.frozen
    have hlt0 := HB5.out.lt
    clear ho5 hf5 hk5 kC
    go_wp2
    refine wpIn_ret ?_
    have hko : Kept (fun b => b = w.heap.size + 1) w5 ((w5.setCell ⟨w.heap.size + 1, 0, none⟩ (.int .i64 0)).setCell ⟨w.heap.size + 1, 1, none⟩ (.slice a5 n5 c5)) := ((Kept.refl (fun b => b = w.heap.size + 1) w5).setCell (p := ⟨w.heap.size + 1, 0, none⟩) (.inr rfl) _).setCell (p := ⟨w.heap.size + 1, 1, none⟩) (.inr rfl) _
    have hkW : Kept (fun b => b = w.heap.size + 1) W ((w5.setCell ⟨w.heap.size + 1, 0, none⟩ (.int .i64 0)).setCell ⟨w.heap.size + 1, 1, none⟩ (.slice a5 n5 c5)) := (HK5.out.mono (fun _ _ e => e.elim)).trans hko
    refine ⟨keepsFrom_of hkW (fun b e hb => h3.not_bare (e ▸ hb)), rfl, pre, x, a5, n5, c5, rfl, h1, HX.out, (HB5.out.stored 0 _).stored 1 _, ?_, HF5.out, (HK2.out.trans h4).next hkW (fun i hi e => by omega)⟩
    rw [HFI.out]
    exact HO5.out.kept hko (fun b hb e => by have := HF5.out b hb; omega)
  case done =>
    rintro D xs W hD hS ⟨h1, h2, h3, h4⟩ hK
    have hfin := lastI_none page ps M hM M xs (Nat.le_refl _) hS h1
    rw [Nat.sub_self, HR.out] at hfin
    have HFN := (show Hid (R = (1, [])) from hfin)
    clear hfin
    obtain ⟨d0, d1⟩ := h3.all2
    have ff := h3.frozen
    have hlt0 := h3.lt
    go_wp2
    have hkW : Kept (fun b => b = w.heap.size + 1) W ((W.setCell ⟨w.heap.size + 1, 0, none⟩ (.int .i64 1)).setCell ⟨w.heap.size + 1, 1, none⟩ (.slice none 0 0)) := ((Kept.refl (fun b => b = w.heap.size + 1) W).setCell (p := ⟨w.heap.size + 1, 0, none⟩) (.inr rfl) _).setCell (p := ⟨w.heap.size + 1, 1, none⟩) (.inr rfl) _
    have hbb := (h3.stored 0 (.int .i64 1)).stored 1 (.slice none 0 0)
    generalize (W.setCell ⟨w.heap.size + 1, 0, none⟩ (.int .i64 1)).setCell ⟨w.heap.size + 1, 1, none⟩ (.slice none 0 0) = W1 at hkW hbb ⊢
    have hKD1 : W1.heap[D]? = some (Obj.deferred (some [])) := hkW.heap hK (fun e => by have e' : D = w.heap.size + 1 := e; omega)
    refine ⟨by simp, .inl ⟨_, _, rfl, run_takeDeferred hKD1, ?_⟩⟩
    have hkD : Kept (fun b => b = D) W1 (W1.putObj D (.deferred none)) := Kept.of_grown (grownBy_putObj' _ D (.deferred none)) (fun r e => by cases e; rfl)
    generalize W1.putObj D (.deferred none) = W9 at hkD ⊢
    obtain ⟨z0, z1⟩ := (hbb.kept hkD (fun e => by omega)).all2
    refine ⟨.agg #[.int .i64 1, .slice none 0 0], by simp [results, Try.results33, go_sem, z0, z1], ?_⟩
    rw [HFN.out]
    exact SetAns.none 1 (((HK2.out.trans h4).next hkW (fun i hi e => by omega)).next hkD (fun i hi e => by omega))
  case stop =>
    rintro D c pre W hD hSp ⟨rfl, pr, x, a, n, cc, rfl, h2, h3, hblk, ho, hf, hk⟩ hKD
    have hfin := lastI_found page ps M hM pr x hSp h2 h3
    rw [HR.out] at hfin
    have hln : (fImg (bwE ps M hM x).dat).length = n := by
      rcases ho.form with ⟨e1, e2⟩ | ⟨g, cap, e1, _⟩
      · cases e1; rw [e2]; rfl
      · cases e1; rfl
    refine wpIn_ret ?_
    refine ⟨by simp, .inl ⟨_, _, rfl, run_takeDeferred hKD, ?_⟩⟩
    have hkD : Kept (fun b => b = D) W (W.putObj D (.deferred none)) := Kept.of_grown (grownBy_putObj' _ D (.deferred none)) (fun r e => by cases e; rfl)
    have hnD : ∀ b, (Value.slice a n cc).ownBlock = some b → ¬ b = D := fun b hb e => ho.not_bare (B := 0) hb ⟨Nat.zero_le _, _, e ▸ hKD, rfl⟩
    generalize W.putObj D (.deferred none) = W9 at hkD ⊢
    obtain ⟨z0, z1⟩ := (hblk.kept hkD (fun e => by omega)).all2
    refine ⟨.agg #[.int .i64 0, .slice a n cc], by simp [results, Try.results33, go_sem, z0, z1], ?_⟩
    rw [hfin]
    refine ⟨a, cc, by simp only [hln], fun b hb => ?_, ?_, hk.next hkD (fun i hi e => by omega)⟩
    · simp only [hln] at hb
      exact Nat.le_trans hzz (hf b hb)
    · simp only [hln]
      exact ho.kept hkD (fun b hb e => hnD b hb e)
end Go.Proofs.Ytcnaabjgjmodeaa

namespace Go.Proofs.Ytcnaabjgjmodeaa
open Go Go.RowKit
set_option linter.unusedVariables false
def lastDd (ds : List FrD) (page : Int) : Int × List Int := lastI page (ds.map (fun d => (⟨d.1, d.2.1, ⟨d.2.2.1, d.2.2.2.1, d.2.2.2.2.1, d.2.2.2.2.2.1, d.2.2.2.2.2.2.1, ⟨d.2.2.2.2.2.2.2.1.1, ⟨0, none, 0, d.2.2.2.2.2.2.2.1.2⟩⟩, ⟨d.2.2.2.2.2.2.2.2.1.1, ⟨0, none, 0, d.2.2.2.2.2.2.2.2.1.2⟩⟩, d.2.2.2.2.2.2.2.2.2.1, d.2.2.2.2.2.2.2.2.2.2.1, ⟨0, none, 0, 0, d.2.2.2.2.2.2.2.2.2.2.2.1⟩, ⟨0, none, 0, 0, d.2.2.2.2.2.2.2.2.2.2.2.2.1⟩, ⟨0, none, 0, d.2.2.2.2.2.2.2.2.2.2.2.2.2⟩⟩⟩ : StLogFrame))) ds.length
theorem lastDd_eq (ps : List StLogFrame) (page : Int) : lastD' ps page = lastDd (datFr ps) page := by
  unfold lastD' lastDd
  rw [datFr_length]
  refine lastI_dat page ?_ _
  simp only [datFr, List.map_map]
  refine List.map_congr_left (fun p _ => ?_)
  rfl
theorem lastDd_small {ps : List StLogFrame} (hp : ∀ p ∈ ps, p.szs ≤ 1048576) {page : Int} {y : StPageResult} (hd : y.dat = lastDd (datFr ps) page) : y.size ≤ 1099511627776 := by
  rw [← lastDd_eq] at hd
  have e : y.page.bs = (lastD' ps page).2 := congrArg Prod.snd hd
  have h := lastI_len (page := page) hp (fun _ _ => by omega) ps.length
  unfold StPageResult.size
  rw [e]
  unfold lastD'
  omega
theorem specLastL_any (fv : Value) (ps : List StLogFrame) (page : Int) (w : World) (hfo : FrOK ps) (hf : RdFr w fv ps) :
    Calls Try.prog 31 #[fv, .int .i64 page] w fun e w' => ∃ y : StPageResult, e = .returned y.val ∧ y.dat = lastDd (datFr ps) page ∧ (∀ b, FootL y.rows b → w.heap.size ≤ b) ∧ OwnL w' y.rows ∧ Same w w' := by
  rw [← lastDd_eq]
  exact (specLast_any fv ps page w hfo hf).mono (fun e w' h => SetAns.st (D := lastD' ps page) h)
theorem implLastL_any (fv : Value) (ps : List StLogFrame) (page : Int) (w : World) (hfo : FrOK ps) (hf : RdFr w fv ps) :
    Calls Try.prog 33 #[fv, .int .i64 page] w fun e w' => ∃ y : StPageResult, e = .returned y.val ∧ y.dat = lastDd (datFr ps) page ∧ (∀ b, FootL y.rows b → w.heap.size ≤ b) ∧ OwnL w' y.rows ∧ Same w w' := by
  rw [← lastDd_eq]
  exact (implLast_any fv ps page w hfo hf).mono (fun e w' h => SetAns.st (D := lastD' ps page) h)
end Go.Proofs.Ytcnaabjgjmodeaa
