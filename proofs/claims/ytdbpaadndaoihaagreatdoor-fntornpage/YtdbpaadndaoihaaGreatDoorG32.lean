import Derived.Test.YtdbpaadndaoihaaGreatDoorG01
import Derived.Test.YtdbpaadndaoihaaGreatDoorG00
import Derived.Test.YtdbpaadndaoihaaGreatDoorG23
import Derived.Test.YtdbpaadndaoihaaGreatDoorG27
import Derived.Test.YtdbpaadndaoihaaGreatDoorG09
import Derived.Test.YtdbpaadndaoihaaGreatDoorG20
import Derived.Test.YtdbpaadndaoihaaGreatDoorG13
import Derived.RangeFuncWrites
import Derived.RangeFuncCalls
import Derived.RangeFuncLeaves
import Derived.TacticsIn
import Derived.OrdersIn
import Derived.RangeFuncNested
import Derived.RangeFuncBound
import Derived.Shelf.Abstract
import Derived.WalkKit
import Derived.OwnWalkIn
import Derived.TacticsInMore
import Derived.LoopNIn
import Derived.LoopIn
import Derived.Deep.MidRow
import Derived.Deep.WholeRow
namespace Go.Proofs.YtdbpaadndaoihaaGreatDoor
set_option linter.unusedVariables false
set_option maxRecDepth 100000
set_option maxHeartbeats 8000000
set_option linter.unusedSimpArgs false
open Go Go.RowKit Go.Shelf
section
variable {P : Program} {ops : Array Oper} {Q : Exit → Act → World → Prop} {l m : Nat}
def noDefer (o : Oper) : Bool := match o.op with
  | .defer _ => false
  | _ => true
theorem noDefer_spec {o : Oper} (h : noDefer o = true) (c : Call) : o.op ≠ .defer c := fun e => by simp [noDefer, e] at h
theorem wp_round {o : Oper} {a : Act} {w : World} {K K' : Act → World → Prop} (hd : noDefer o = true) (hK : ∀ a w, K a w → K' a w) (h : o.wp P a w K Q) : o.wpIn (Fence.wide.inRound l) m P a w K' Q := by
  unfold Oper.wp at h
  refine ⟨fun _ _ => trivial, ?_⟩
  rw [show (Fence.wide.inRound l).round = some l from rfl, Oper.semAt_some l _ _ (noDefer_spec hd)]
  generalize (execOp a.eval o).run P w = r at h ⊢
  cases r with
  | ok x w' =>
    cases x <;> simp only [Oper.upon] at h <;> simp only [Oper.uponIn]
    all_goals first
      | exact hK _ _ h
      | exact h.elim
      | (refine ⟨fun h => by simp [Fence.wide, Fence.inRound] at h, ?_⟩
         refine CallsIn.inRound l (callsIn_wide.2 (Calls.mono h ?_))
         intro e w'' he
         cases e <;> first | exact hK _ _ he | exact he)
      | (refine ⟨fun h => by simp [Fence.wide, Fence.inRound] at h, ?_⟩
         intro c cs _
         obtain ⟨v, w'', hr, hs⟩ := h c cs
         exact ⟨v, w'', hK _ _ hr, stepsIn_wide.2 hs⟩)
  | halt x w' => cases x <;> simp only [Oper.upon] at h <;> simp only [Oper.uponIn] <;> exact h
theorem wpList_round (hLO : ¬ LetsOut Q) : ∀ (os : List Oper) (a : Act) (w : World), os.all noDefer = true → wpList P ops Q os a w → wpListIn (Fence.wide.inRound l) m P ops Q os a w
  | [], _, _, _, h => h
  | o :: os, a, w, hd, h => by
    simp only [List.all_cons, Bool.and_eq_true] at hd
    unfold wpList at h
    unfold wpListIn
    split
    · rename_i hw
      rw [if_pos hw] at h
      rcases h with h | h
      · exact wp_round hd.1 (fun a w hk => wpList_round hLO os a w hd.2 hk) h
      · exact absurd h.2 hLO
    · rename_i hw
      rw [if_neg hw] at h
      exact ⟨fun _ _ => trivial, wpList_round hLO os _ w hd.2 h⟩
theorem round_region {id : Nat} {os : List Oper} {a : Act} {w : World} (hLO : ¬ LetsOut Q) (hd : os.all noDefer = true) (h : wpList P os.toArray Q os a w) : (Code.region id os.toArray false).wpIn (Fence.wide.inRound l) m P Q a w :=
  wpIn_region_lit (wpList_round hLO os a w hd h)
theorem letsOut_then {K : Act → World → Prop} (h : ¬ LetsOut Q) : ¬ LetsOut (Exit.then K Q) := fun ⟨a, w, hq⟩ => h ⟨a, w, hq⟩
theorem letsOut_block {id : Nat} (h : ¬ LetsOut Q) : ¬ LetsOut (Exit.inBlock id Q) := fun ⟨a, w, hq⟩ => h ⟨a, w, hq⟩
theorem letsOut_ownG {α : Type} {B : Nat} {Kp : World → World → Prop} {I : List α → World → Prop} {Ix : Code → List α → World → Prop} {xs : List α} {W : World} : ¬ LetsOut (ownPostG B Kp I Ix xs W) := fun ⟨_, _, h⟩ => h
end
def Bare (B : Nat) (w : World) (b : Nat) : Prop := B ≤ b ∧ ∃ o : Obj, w.heap[b]? = some o ∧ o.isCells = false
theorem kept_turn {B : Nat} {W W' : World} {row : Option Nat} (hg : W.grownBy W' row) (hr : ∀ r, row = some r → B ≤ r ∧ ∃ o : Obj, W.heap[r]? = some o ∧ o.isCells = false) : Kept (Bare B W) W W' :=
  Kept.of_grown hg (fun k e => hr k e)
theorem Blk.not_bare {w : World} {b B : Nat} {e : TypeId} {vs : List Value} (h : Blk w b e vs) : ¬ Bare B w b := fun ⟨_, o, ho, hc⟩ => by
  rw [show w.heap[b]? = _ from h] at ho
  cases ho
  cases hc
theorem Own.not_bare {base : Nat} {e : TypeId} {k : IntKind} {w : World} {v : Value} {bs : List Int} {B b : Nat} (h : Own base e k w v bs) (hb : v.ownBlock = some b) : ¬ Bare B w b := fun ⟨_, o, ho, hc⟩ => by
  rcases h.2 with ⟨rfl, _⟩ | ⟨g, cap, cur, rfl, _, hg, _⟩
  · simp [Value.ownBlock] at hb
  · have : g = b := by simpa [Value.ownBlock] using hb
    subst this
    rw [hg] at ho
    cases ho
    cases hc
theorem OwnR.not_bare {E : Type} {K : RowK E} {base : Nat} {tw tb : TypeId} {w : World} {v : Value} {qs : List E} {B b : Nat} (h : OwnR K base tw tb w v qs) (hb : footR K v qs b) : ¬ Bare B w b := by
  rcases hb with hb | ⟨p, hp, hb⟩
  · rintro ⟨_, o, ho, hc⟩
    rcases h.row.2 with ⟨rfl, _⟩ | ⟨g, cap, cur, rfl, _, hg, _⟩
    · simp [Value.ownBlock] at hb
    · have : g = b := by simpa [Value.ownBlock] using hb
      subst this
      rw [hg] at ho
      cases ho
      cases hc
  · exact (h.data p hp).not_bare hb
theorem keepsFrom_of {R : Nat → Prop} {B : Nat} {W W' : World} (hk : Kept R W W') (hr : ∀ b, R b → ¬ Bare B W b) : KeepsFrom B W W' :=
  ⟨hk.size, fun k o hB ho hc => (hk.block k (Array.getElem?_eq_some_iff.1 ho).1 (fun e => hr k e ⟨hB, o, ho, hc⟩)).trans ho⟩
theorem backward_any (fa : Option Addr) (n fc : Nat) (w : World) : Calls Tryz.prog 55 #[.slice fa n fc] w fun e w' =>
    e = .returned (.func (.func 80) #[] #[.pointer (some ⟨w.heap.size, 0, none⟩)]) ∧ Blk w' w.heap.size 31 [.slice fa n fc] ∧ w'.heap.size = w.heap.size + 1 ∧ Same w w' := by
  have H0 := hid (Blk.newL w [.slice fa n fc] 31)
  have hmf : ∀ (fn : Fn) (first cap : Array Value) (w : World), (Instr.makeFunc fn first cap).run Tryz.prog w = .ok (.func fn first cap) w := fun _ _ _ _ => rfl
  go_enter Tryz.func55, Tryz.ntmps55
  go_wp2
  go_ret
  exact ⟨rfl, H0.out, by simp [World.size_alloc], (Kept.refl _ _).alloc _⟩
def bwE (ps : List StLogFrame) (M : Nat) (h : ps.length = M) (x : Fin M) : StLogFrame := ps[M - 1 - x.val]'(by have := x.isLt; omega)
def bwV (ps : List StLogFrame) (M : Nat) (h : ps.length = M) (x : Fin M) : Array Value := #[.int .i64 ((M : Int) - 1 - (x.val : Int)), .agg (kFr.cells (bwE ps M h x)).toArray]
theorem back_stops (n b M : Nat) (fa : Option Addr) (fc : Nat) (ps : List StLogFrame) (hM : ps.length = M) (w : World) (hb : Blk w b 31 [.slice fa M fc]) (hf : RdFr w (.slice fa M fc) ps) (hlen : M ≤ 1048576) :
    SeqStopsK Fence.wide n Tryz.prog 80 #[.pointer (some ⟨b, 0, none⟩)] (bwV ps M hM) (Below w.heap.size) (fun xs => xs.map Fin.val = List.range M) (fun pre => pre.map Fin.val = List.range pre.length) M w := by
  intro l J Jx W hW hJ hJx hY hJ0
  have HS0 := (show Hid (Same w W) from Kept.of_below hW)
  have HB := hid hb
  have HF := hid hf
  have HJ0 := hid hJ0
  have HJ := hid hJ
  have HY := hid hY
  have c0 := (hb.same HS0.out).c0
  clear hb hf hW hJ0 hJ hJx hY
  refine callsIn_of_wp Tryz.func80 rfl trivial ?_ rfl
  simp only [Tryz.ntmps80, List.size_toArray, List.length_cons, List.length_nil, Nat.reduceAdd, Nat.reduceSub, Array.replicate_succ, Array.replicate_zero, List.push_toArray, List.append_toArray, List.nil_append, List.cons_append]
  gi_wp2
  clear c0
  gi_loopw [3] (fun i wr => ∃ (k : Nat) (pre : List (Fin M)), k ≤ M ∧ i = .int .i64 ((M : Int) - 1 - (k : Int)) ∧ Hid (pre.map Fin.val = List.range k) ∧ Hid (Same w wr) ∧ Hid (J pre wr)) (fun i _ => (intOf i + 1).toNat)
  case atStart => exact ⟨0, [], Nat.zero_le _, by simp, rfl, HS0, HJ0⟩
  case round =>
    obtain ⟨k, pre, hk, rfl, HP, HS, HJk⟩ := hrel
    have d0 := (HB.out.same HS.out).c0
    by_cases hkM : k < M
    · obtain ⟨j, hj⟩ : ∃ j, M - 1 - k = j := ⟨_, rfl⟩
      have hjM : j < M := by omega
      have hji : (M : Int) - 1 - (k : Int) = (j : Int) := by omega
      rw [hji]
      have hlp : j < ps.length := by omega
      obtain ⟨bb, off, fc', hfa, hcell⟩ : ∃ b off c, Value.slice fa M fc = .slice (some ⟨b, off, none⟩) M c ∧ ∀ j i, (h : j < ps.length) → i < 16 → w.cell? ⟨b, off + (j * 16 + i), none⟩ = (kFr.cells ps[j])[i]? := by
        rcases HF.out.row.row with ⟨h, _⟩ | ⟨b, off, c, h, hc⟩
        · rw [h] at hlp; simp at hlp
        · exact ⟨b, off, c, by rw [← hM]; exact (by rw [hM] at h ⊢; exact h), hc⟩
      injection hfa with hfa _ hfc
      subst hfa hfc
      obtain ⟨cs, hcs⟩ : ∃ cs, kFr.cells ps[j] = cs := ⟨_, rfl⟩
      have hcl : cs.length = 16 := by rw [← hcs]; exact kFr.len _
      have hrg : wr.rangeAt bb (off + j * 16) cs := fun i v hv => by
        have hi : i < 16 := by have := (List.getElem?_eq_some_iff.1 hv).1; omega
        have h := hcell j i hlp hi
        rw [hcs, hv, ← Nat.add_assoc] at h
        exact HS.out.cellOf h id
      obtain ⟨a0, a1, a2, a3, a4, a5, a6, a7, a8, a9, a10, a11, a12, a13, a14, a15, rfl⟩ := list16 hcl
      have q0 : wr.cell? ⟨bb, off + j * 16, none⟩ = some a0 := hrg 0 a0 rfl
      have q1 : wr.cell? ⟨bb, off + j * 16 + 1, none⟩ = some a1 := hrg 1 a1 rfl
      have q2 : wr.cell? ⟨bb, off + j * 16 + 2, none⟩ = some a2 := hrg 2 a2 rfl
      have q3 : wr.cell? ⟨bb, off + j * 16 + 3, none⟩ = some a3 := hrg 3 a3 rfl
      have q4 : wr.cell? ⟨bb, off + j * 16 + 4, none⟩ = some a4 := hrg 4 a4 rfl
      have q5 : wr.cell? ⟨bb, off + j * 16 + 5, none⟩ = some a5 := hrg 5 a5 rfl
      have q6 : wr.cell? ⟨bb, off + j * 16 + 6, none⟩ = some a6 := hrg 6 a6 rfl
      have q7 : wr.cell? ⟨bb, off + j * 16 + 7, none⟩ = some a7 := hrg 7 a7 rfl
      have q8 : wr.cell? ⟨bb, off + j * 16 + 8, none⟩ = some a8 := hrg 8 a8 rfl
      have q9 : wr.cell? ⟨bb, off + j * 16 + 9, none⟩ = some a9 := hrg 9 a9 rfl
      have q10 : wr.cell? ⟨bb, off + j * 16 + 10, none⟩ = some a10 := hrg 10 a10 rfl
      have q11 : wr.cell? ⟨bb, off + j * 16 + 11, none⟩ = some a11 := hrg 11 a11 rfl
      have q12 : wr.cell? ⟨bb, off + j * 16 + 12, none⟩ = some a12 := hrg 12 a12 rfl
      have q13 : wr.cell? ⟨bb, off + j * 16 + 13, none⟩ = some a13 := hrg 13 a13 rfl
      have q14 : wr.cell? ⟨bb, off + j * 16 + 14, none⟩ = some a14 := hrg 14 a14 rfl
      have q15 : wr.cell? ⟨bb, off + j * 16 + 15, none⟩ = some a15 := hrg 15 a15 rfl
      have hEV : bwV ps M hM ⟨k, hkM⟩ = #[.int .i64 (j : Int), .agg #[a0, a1, a2, a3, a4, a5, a6, a7, a8, a9, a10, a11, a12, a13, a14, a15]] := by
        unfold bwV bwE
        simp only [hji]
        have e : ∀ (q : Nat) (hq : q < ps.length), q = j → kFr.cells (ps[q]'hq) = [a0, a1, a2, a3, a4, a5, a6, a7, a8, a9, a10, a11, a12, a13, a14, a15] := fun q hq e => by subst e; exact hcs
        rw [e _ _ hj]
      have hpl : pre.length = k := by have := congrArg List.length HP.out; simpa using this
      obtain ⟨fn, tmps, assign, body, hy, hR⟩ := HY.out pre ⟨k, hkM⟩ wr HJk.out (by omega)
      rw [hEV] at hy
      have HR := hid hR
      have HP2 := (show Hid ((pre ++ [(⟨k, hkM⟩ : Fin M)]).map Fin.val = List.range (k + 1)) from by unfold Hid; rw [List.map_append, HP.out, List.range_succ]; rfl)
      clear hcell hcs hrg hR hEV hj
      gi_wp2
      refine ⟨fun h => by simp [Fence.wide] at h, ?_⟩
      refine HR.out.mono ?_
      rintro e W3 (⟨rfl, hJ3, hk3⟩ | ⟨rfl, hJx3⟩)
      · have HJ3 := hid hJ3
        have HS3 := (show Hid (Same w W3) from Kept.of_below ((HS.out.below (Nat.le_refl _) (fun _ _ => id)).trans hk3))
        clear hJ3 hk3 HR hy
        gi_wp2
        go_roundw
        case rel => exact ⟨k + 1, _, by omega, by first | (congr 1; omega) | go_num, HP2, HS3, HJ3⟩
        case measure => simp only [intOf]; omega
      · clear HR hy
        gi_wp2
        refine bodyPost_ret (results_none rfl _ _ _) rfl ?_
        refine ⟨⟨_, rfl⟩, .inr ⟨_, ?_, hJx3⟩⟩
        rw [HP2.out, List.length_append, hpl]
        rfl
    · obtain rfl : k = M := by omega
      have hneg : (k : Int) - 1 - (k : Int) = -1 := by omega
      rw [hneg]
      gi_wp2
      go_end0
      exact ⟨⟨_, rfl⟩, .inl ⟨pre, HP.out, HJk.out⟩⟩
theorem lastI_none (page : Int) (ps : List StLogFrame) (M : Nat) (hM : ps.length = M) : ∀ (k : Nat) (pre : List (Fin M)), k ≤ M → pre.map Fin.val = List.range k → (∀ x ∈ pre, ¬ isImg page (bwE ps M hM x).dat) → lastI page ps M = lastI page ps (M - k)
  | 0, _, _, _, _ => rfl
  | k + 1, pre, hk, hp, hn => by
    have hl : pre.length = k + 1 := by have := congrArg List.length hp; simpa using this
    have h1 : (pre.take k).map Fin.val = List.range k := by rw [List.map_take, hp, List.take_range]; congr 1; omega
    rw [lastI_none page ps M hM k (pre.take k) (by omega) h1 (fun x hx => hn x (List.mem_of_mem_take hx))]
    have h2 : M - k = (M - (k + 1)) + 1 := by omega
    rw [h2, lastI_step _ _ _ (by omega), if_neg]
    have hm := hn (pre[k]'(by omega)) (List.getElem_mem _)
    have hv : (pre[k]'(by omega)).val = k := by
      have h3 : (pre.map Fin.val)[k]'(by simp; omega) = (List.range (k + 1))[k]'(by simp) := by simp only [hp]
      simpa using h3
    unfold bwE at hm
    have e : ∀ (q : Nat) (hq : q < ps.length), q = M - (k + 1) → ps[q]'hq = ps[M - (k + 1)]'(by omega) := fun q hq e => by subst e; rfl
    rw [e _ _ (by rw [hv]; omega)] at hm
    exact hm
theorem lastI_found (page : Int) (ps : List StLogFrame) (M : Nat) (hM : ps.length = M) (pre : List (Fin M)) (x : Fin M) (hp : (pre ++ [x]).map Fin.val = List.range (pre ++ [x]).length) (hn : ∀ y ∈ pre, ¬ isImg page (bwE ps M hM y).dat) (hx : isImg page (bwE ps M hM x).dat) : lastI page ps M = (0, fImg (bwE ps M hM x).dat) := by
  rw [List.map_append, List.length_append, List.length_singleton, List.range_succ] at hp
  obtain ⟨h1, h2⟩ := List.append_inj hp (by simp)
  have hv : x.val = pre.length := by simpa using h2
  have hlt := x.isLt
  rw [lastI_none page ps M hM pre.length pre (by omega) h1 hn]
  have h3 : M - pre.length = (M - 1 - x.val) + 1 := by omega
  rw [h3, lastI_step _ _ _ (by omega)]
  exact if_pos hx
def LvI (w w2 : World) (page : Int) (ps : List StLogFrame) (M : Nat) (hM : ps.length = M) (pre : List (Fin M)) (W : World) : Prop :=
  (∀ x ∈ pre, ¬ isImg page (bwE ps M hM x).dat) ∧ Blk W w.heap.size 2 [.int .i64 page] ∧ Blk W (w.heap.size + 1) 38 [.int .i64 0, .slice none 0 0] ∧ Same w2 W
theorem LvI.own (w w2 : World) (page : Int) (ps : List StLogFrame) (M : Nat) (hM : ps.length = M) : OwnFrom w2.heap.size (LvI w w2 page ps M hM) := by
  rintro pre W W' row ⟨h1, h2, h3, hk⟩ hg hr
  have hk2 := kept_turn hg hr
  exact ⟨h1, h2.kept hk2 h2.not_bare, h3.kept hk2 h3.not_bare, hk.next hk2 (fun i hi e => by have := e.1; omega)⟩
def LvX (w w2 : World) (page : Int) (ps : List StLogFrame) (M : Nat) (hM : ps.length = M) (c : Code) (pre : List (Fin M)) (W : World) : Prop :=
  c = .ret ∧ ∃ (pr : List (Fin M)) (x : Fin M) (a : Option Addr) (n cc : Nat), pre = pr ++ [x] ∧ (∀ y ∈ pr, ¬ isImg page (bwE ps M hM y).dat) ∧ isImg page (bwE ps M hM x).dat ∧ Blk W (w.heap.size + 1) 38 [.int .i64 0, .slice a n cc] ∧
    Own 0 5 .u8 W (.slice a n cc) (fImg (bwE ps M hM x).dat) ∧ (∀ b, (Value.slice a n cc).ownBlock = some b → w2.heap.size ≤ b) ∧ Same w W
theorem LvX.own (w w2 : World) (hw : w.heap.size ≤ w2.heap.size) (page : Int) (ps : List StLogFrame) (M : Nat) (hM : ps.length = M) (c : Code) : OwnFrom w2.heap.size (LvX w w2 page ps M hM c) := by
  rintro pre W W' row ⟨h0, pr, x, a, n, cc, h1, h2, h3, h4, h5, h6, hk⟩ hg hr
  have hk2 := kept_turn hg hr
  exact ⟨h0, pr, x, a, n, cc, h1, h2, h3, h4.kept hk2 h4.not_bare, h5.kept hk2 (fun b hb => h5.not_bare hb), h6, hk.next hk2 (fun i hi e => by have := e.1; omega)⟩
def LvA (w2 : World) (ps : List StLogFrame) (M : Nat) (hM : ps.length = M) (f : Fin M → Nat → Act) (x : Fin M) (a' : Act) (W : World) : Prop :=
  ∃ Bx, w2.heap.size ≤ Bx ∧ Blk W Bx 51 (kFr.cells (bwE ps M hM x)) ∧ a' = f x Bx
theorem LvA.own (w2 : World) (ps : List StLogFrame) (M : Nat) (hM : ps.length = M) (f : Fin M → Nat → Act) (x : Fin M) (a' : Act) : OwnFrom w2.heap.size (fun (_ : Unit) W => LvA w2 ps M hM f x a' W) := by
  rintro _ W W' row ⟨Bx, h1, h2, h3⟩ hg hr
  exact ⟨Bx, h1, h2.kept (kept_turn hg hr) h2.not_bare, h3⟩
theorem implLast_any (fv : Value) (ps : List StLogFrame) (page : Int) (w : World) (hfo : FrOK ps) (hf : RdFr w fv ps) :
    Calls Tryz.prog 19 #[fv, .int .i64 page] w fun e w' => SetAns 5 w w' e (lastD' ps page).1 (lastD' ps page).2 := by
  have hlen := hfo.len
  have HFO := hid hfo
  have HF := hid hf
  obtain ⟨fa, fc, rfl⟩ := hf.form
  clear hfo hf
  unfold lastD'
  obtain ⟨M, hM⟩ : ∃ n, ps.length = n := ⟨_, rfl⟩
  rw [hM] at hlen HF ⊢
  obtain ⟨R, hR⟩ : ∃ R, lastI page ps M = R := ⟨_, rfl⟩
  have HR := hid hR
  rw [hR]
  clear hR
  have HM := hid hM
  have HB0 := hid (Blk.newA w [.int .i64 page] 2 [.int .i64 0, .slice none 0 0] 38)
  have HB1 := hid (Blk.newB w [.int .i64 page] 2 [.int .i64 0, .slice none 0 0] 38)
  have HK1 := (show Hid (Same w ((w.alloc (.cells #[.int .i64 page] 2)).alloc (.cells #[.int .i64 0, .slice none 0 0] 38))) from ((Kept.refl _ _).alloc _).alloc _)
  have HBS := (fun k (h : Blk ((w.alloc (.cells #[.int .i64 page] 2)).alloc (.cells #[.int .i64 0, .slice none 0 0] 38)) k 2 []) => True.intro)
  clear HBS
  have kB := backward_any fa M fc ((w.alloc (.cells #[.int .i64 page] 2)).alloc (.cells #[.int .i64 0, .slice none 0 0] 38))
  simp only [World.size_alloc] at kB
  refine callsIn_wide.1 (callsIn_of_wp_marks (F := Fence.wide) (n := 3) Tryz.func19 rfl trivial (wpIn_wide.2 ?_) rfl)
  simp only [Tryz.ntmps19, List.size_toArray, List.length_cons, List.length_nil, Nat.reduceAdd, Nat.reduceSub, Array.replicate_succ, Array.replicate_zero, List.push_toArray, List.append_toArray, List.nil_append, List.cons_append]
  go_wp2_with fail
  refine kB.mono ?_
  rintro e w2 ⟨rfl, hbx, hz2, hk2⟩
  have HB02 := hid (HB0.out.same hk2)
  have HB12 := hid (HB1.out.same hk2)
  have HK2 := hid (HK1.out.trans hk2)
  have HBX := hid hbx
  have hz2 : w2.heap.size = w.heap.size + 3 := by rw [hz2]
  clear hbx hk2 kB HB0 HB1 HK1
  go_wp2_with fail
  have HF2 := hid (HF.out.same HK2.out)
  have hzz := HK2.out.size
  refine (wpIn_wide (n := 3)).1 ?_
  refine wpIn_rangeFunc_ownH (F := Fence.wide) (n := 3) rfl (by decide) (gf := 80) (lb := #[.pointer (some ⟨w.heap.size + 1 + 1, 0, none⟩)]) rfl trivial (enters_of Tryz.func80 (by kernel_rfl) rfl)
    (back_stops 2 (w.heap.size + 1 + 1) M fa fc ps hM w2 HBX.out HF2.out hlen) belowK_t (belowK_b (Nat.le_refl _)) (Below.refl _ _) (fun _ => rfl)
    (LvI w w2 page ps M hM) (LvX w w2 page ps M hM) (LvI.own w w2 page ps M hM) (LvX.own w w2 hzz page ps M hM)
    ⟨fun x hx => absurd hx List.not_mem_nil, HB02.out, HB12.out, Kept.refl _ _⟩
    (LvA w2 ps M hM (fun (x : Fin M) (Bx : Nat) => { tmps := #[.slice fa M fc, .int .i64 page, undef, .pointer (some ⟨w.heap.size, 0, none⟩), .pointer (some ⟨w.heap.size + 1, 0, none⟩), undef, .pointer (some ⟨Bx, 0, none⟩), .slice fa M fc, .func (.func 80) #[] #[.pointer (some ⟨w.heap.size + 1 + 1, 0, none⟩)], .int .i64 ((M : Int) - 1 - (x.val : Int)), .agg (kFr.cells (bwE ps M hM x)).toArray, undef, undef, undef, undef, undef, undef, undef, undef, undef, undef, undef, undef, undef, undef, undef, undef, undef], defers := [] })) (LvA.own w2 ps M hM _) ?assign ?body ?done ?stop
  case assign =>
    rintro l pre x W K ⟨h1, h2, h3, h4⟩ hK
    obtain ⟨cs, hcs⟩ : ∃ cs, kFr.cells (bwE ps M hM x) = cs := ⟨_, rfl⟩
    have hcl : cs.length = 16 := by rw [← hcs]; exact kFr.len _
    have hone : cs.toArray.all (·.oneCell') = true := all_oneCell_toArray (fun v hv => by
      rw [← hcs] at hv
      simp only [kFr, StLogFrame.cells, List.mem_cons, List.not_mem_nil, or_false] at hv
      rcases hv with rfl | rfl | rfl | rfl | rfl | rfl | rfl | rfl | rfl | rfl | rfl | rfl | rfl | rfl | rfl | rfl <;> rfl)
    have hst := run_storeCells_new (P := Tryz.prog) W 51 #[.int .i64 0, .int .i64 0, .int .i64 0, .int .i64 0, .int .i64 0, .int .i64 0, .int .i64 0, .bool false, .slice none 0 0, .bool false, .slice none 0 0, .int .i64 0, .int .i64 0, .slice none 0 0, .slice none 0 0, .slice none 0 0] cs.toArray (by rw [List.size_toArray, hcl]; kernel_rfl) (by simp [hcl]) hone
    rw [List.toList_toArray] at hst
    have HH := (show Hid (K ((fun (x : Fin M) (Bx : Nat) => { tmps := #[.slice fa M fc, .int .i64 page, undef, .pointer (some ⟨w.heap.size, 0, none⟩), .pointer (some ⟨w.heap.size + 1, 0, none⟩), undef, .pointer (some ⟨Bx, 0, none⟩), .slice fa M fc, .func (.func 80) #[] #[.pointer (some ⟨w.heap.size + 1 + 1, 0, none⟩)], .int .i64 ((M : Int) - 1 - (x.val : Int)), .agg (kFr.cells (bwE ps M hM x)).toArray, undef, undef, undef, undef, undef, undef, undef, undef, undef, undef, undef, undef, undef, undef, undef, undef, undef], defers := [] }) x W.heap.size) (W.alloc (.cells cs.toArray 51))) from hK _ _ (keepsFrom_of (R := fun _ => False) ((Kept.refl _ _).alloc _) (fun b e => e.elim)) (((Kept.refl (fun _ => False) W).alloc _).below h4.size (fun _ _ => id)) ⟨h1, h2.alloc _, h3.alloc _, h4.alloc _⟩ ⟨W.heap.size, h4.size, by rw [hcs]; exact Blk.newL W cs _, rfl⟩)
    dsimp only at HH
    rw [hcs] at HH
    dsimp only [bwV]
    rw [hcs]
    clear hcs hone
    refine round_region (letsOut_then (fun ⟨_, _, h⟩ => h)) rfl ?_
    go_wp2
    exact HH.out
  case body =>
    rintro l pre x a' W hl ⟨r, hr⟩ ⟨h1, h2, h3, h4⟩ ⟨Bx, hBx, hblk, rfl⟩ hlt
    dsimp only
    have e2 : W.cell? ⟨Bx, 2, none⟩ = some (.int .i64 (bwE ps M hM x).record.kind) := hblk.cell 2
    have e5 : W.cell? ⟨Bx, 5, none⟩ = some (.int .i64 (bwE ps M hM x).record.page) := hblk.cell 5
    have e15 : W.cell? ⟨Bx, 15, none⟩ = some (bwE ps M hM x).record.image.v := hblk.cell 15
    have p0 := h2.c0
    have hmem : bwE ps M hM x ∈ ps := List.getElem_mem _
    have HPD := hid (((HF.out.data _ hmem).same HK2.out).same h4)
    have HPZ := hid (HFO.out.each _ hmem)
    have HIM := (show Hid (isImg page (bwE ps M hM x).dat ↔ ((bwE ps M hM x).record.kind = 8 ∧ (bwE ps M hM x).record.page = page)) from Iff.rfl)
    have HFI := (show Hid (fImg (bwE ps M hM x).dat = (bwE ps M hM x).record.image.bs) from rfl)
    have HRD := (show Hid (Rd .u8 W (bwE ps M hM x).record.image.v (bwE ps M hM x).record.image.bs) from HPD.out.2.2.2.2)
    have HDN := (show Hid ((bwE ps M hM x).record.image.bs.length ≤ 1099511627776) from by
      have h := HPZ.out
      have h1 := HPD.out.2.2.1.2.1
      have h2 := HPD.out.2.2.2.1.2.1
      simp only [StLogFrame.szs, StLogRecord.szs, StPageRecord.szs] at h
      unfold Hid
      omega)
    obtain ⟨ta, tc, hta⟩ : ∃ ta tc, (bwE ps M hM x).record.image.v = .slice ta (bwE ps M hM x).record.image.bs.length tc := ⟨_, _, rfl⟩
    rw [hta] at e15 HRD
    generalize (bwE ps M hM x).record.kind = kd at e2 HIM
    generalize (bwE ps M hM x).record.page = pg at e5 HIM
    generalize (bwE ps M hM x).record.image.bs = im at e15 HRD HDN HFI
    generalize (kFr.cells (bwE ps M hM x)).toArray = ea
    clear hta HPD HPZ hblk hmem hr
    have HGO := (show Hid (¬ isImg page (bwE ps M hM x).dat → LvI w w2 page ps M hM (pre ++ [x]) W) from fun h => ⟨fun y hy => by rcases List.mem_append.1 hy with hy | hy; exact h1 y hy; rw [List.mem_singleton.1 hy]; exact h, h2, h3, h4⟩)
    by_cases h8 : kd = 8
    case neg =>
      have e8 : (kd == 8) = false := by simp [h8]
      refine wpIn_block (wpIn_seq (round_region (letsOut_then (letsOut_block letsOut_ownG)) rfl ?_))
      go_wp2
      refine wpIn_cond_false rfl (wpIn_skip ?_)
      exact ⟨keepsFrom_of (R := fun _ => False) (Kept.refl _ _) (fun b e => e.elim), Below.refl _ _, HGO.out (fun h => h8 (HIM.out.1 h).1)⟩
    subst h8
    by_cases hp : pg = page
    case neg =>
      have e8 : (pg == page) = false := by simp [hp]
      refine wpIn_block (wpIn_seq (round_region (letsOut_then (letsOut_block letsOut_ownG)) rfl ?_))
      go_wp2
      refine wpIn_cond_false rfl (wpIn_skip ?_)
      exact ⟨keepsFrom_of (R := fun _ => False) (Kept.refl _ _) (fun b e => e.elim), Below.refl _ _, HGO.out (fun h => hp (HIM.out.1 h).2)⟩
    subst hp
    have HX := hid (HIM.out.2 ⟨rfl, rfl⟩)
    clear HGO HIM
    refine wpIn_block (wpIn_seq (round_region (letsOut_then (letsOut_block letsOut_ownG)) rfl ?_))
    go_wp2
    refine wpIn_cond_true rfl (wpIn_seq (round_region (letsOut_then (letsOut_block letsOut_ownG)) rfl ?_))
    have kC := clone_any (.slice ta im.length tc) im W HDN.out HRD.out
    generalize im.length = imn at e15 kC
    go_wp2_with fail
    refine kC.mono ?_
    rintro e w5 ⟨a5, n5, c5, rfl, ho5, hf5, hk5⟩
    have HB5 := hid (h3.same hk5)
    have HK5 := hid hk5
    have HO5 := hid ho5
    have hzW := h4.size
    have HF5 := (show Hid (∀ b, (Value.slice a5 n5 c5).ownBlock = some b → w2.heap.size ≤ b) from fun b hb => by have := hf5 b hb; omega)
    obtain ⟨d0, d1⟩ := HB5.out.all2
    have ff := HB5.out.frozen
    have hlt0 := HB5.out.lt
    clear ho5 hf5 hk5 kC
    go_wp2
    refine wpIn_ret ?_
    have hko : Kept (fun b => b = w.heap.size + 1) w5 ((w5.setCell ⟨w.heap.size + 1, 0, none⟩ (.int .i64 0)).setCell ⟨w.heap.size + 1, 1, none⟩ (.slice a5 n5 c5)) := ((Kept.refl (fun b => b = w.heap.size + 1) w5).setCell (p := ⟨w.heap.size + 1, 0, none⟩) (.inr rfl) _).setCell (p := ⟨w.heap.size + 1, 1, none⟩) (.inr rfl) _
    have hkW : Kept (fun b => b = w.heap.size + 1) W ((w5.setCell ⟨w.heap.size + 1, 0, none⟩ (.int .i64 0)).setCell ⟨w.heap.size + 1, 1, none⟩ (.slice a5 n5 c5)) := (HK5.out.mono (fun _ _ e => e.elim)).trans hko
    refine ⟨keepsFrom_of hkW (fun b e hb => h3.not_bare (e ▸ hb)), rfl, pre, x, a5, n5, c5, rfl, h1, HX.out, (HB5.out.stored 0 _).stored 1 _, ?_, HF5.out, (HK2.out.trans h4).next hkW (fun i hi e => by omega)⟩
    rw [HFI.out]
    exact HO5.out.kept hko (fun b hb e => by have := HF5.out b hb; omega)
  case done =>
    rintro D xs W hD hS ⟨h1, h2, h3, h4⟩ hK
    have hfin := lastI_none page ps M hM M xs (Nat.le_refl _) hS h1
    rw [Nat.sub_self, HR.out] at hfin
    have HFN := (show Hid (R = (1, [])) from hfin)
    clear hfin
    obtain ⟨d0, d1⟩ := h3.all2
    have ff := h3.frozen
    have hlt0 := h3.lt
    go_wp2
    have hkW : Kept (fun b => b = w.heap.size + 1) W ((W.setCell ⟨w.heap.size + 1, 0, none⟩ (.int .i64 1)).setCell ⟨w.heap.size + 1, 1, none⟩ (.slice none 0 0)) := ((Kept.refl (fun b => b = w.heap.size + 1) W).setCell (p := ⟨w.heap.size + 1, 0, none⟩) (.inr rfl) _).setCell (p := ⟨w.heap.size + 1, 1, none⟩) (.inr rfl) _
    have hbb := (h3.stored 0 (.int .i64 1)).stored 1 (.slice none 0 0)
    generalize (W.setCell ⟨w.heap.size + 1, 0, none⟩ (.int .i64 1)).setCell ⟨w.heap.size + 1, 1, none⟩ (.slice none 0 0) = W1 at hkW hbb ⊢
    have hKD1 : W1.heap[D]? = some (Obj.deferred (some [])) := hkW.heap hK (fun e => by have e' : D = w.heap.size + 1 := e; omega)
    refine ⟨by simp, .inl ⟨_, _, rfl, run_takeDeferred hKD1, ?_⟩⟩
    have hkD : Kept (fun b => b = D) W1 (W1.putObj D (.deferred none)) := Kept.of_grown (grownBy_putObj' _ D (.deferred none)) (fun r e => by cases e; rfl)
    generalize W1.putObj D (.deferred none) = W9 at hkD ⊢
    obtain ⟨z0, z1⟩ := (hbb.kept hkD (fun e => by omega)).all2
    refine ⟨.agg #[.int .i64 1, .slice none 0 0], by simp [results, Tryz.results19, go_sem, z0, z1], ?_⟩
    rw [HFN.out]
    exact SetAns.none 1 (((HK2.out.trans h4).next hkW (fun i hi e => by omega)).next hkD (fun i hi e => by omega))
  case stop =>
    rintro D c pre W hD hSp ⟨rfl, pr, x, a, n, cc, rfl, h2, h3, hblk, ho, hf, hk⟩ hKD
    have hfin := lastI_found page ps M hM pr x hSp h2 h3
    rw [HR.out] at hfin
    have hln : (fImg (bwE ps M hM x).dat).length = n := by
      rcases ho.form with ⟨e1, e2⟩ | ⟨g, cap, e1, _⟩
      · cases e1; rw [e2]; rfl
      · cases e1; rfl
    refine wpIn_ret ?_
    refine ⟨by simp, .inl ⟨_, _, rfl, run_takeDeferred hKD, ?_⟩⟩
    have hkD : Kept (fun b => b = D) W (W.putObj D (.deferred none)) := Kept.of_grown (grownBy_putObj' _ D (.deferred none)) (fun r e => by cases e; rfl)
    have hnD : ∀ b, (Value.slice a n cc).ownBlock = some b → ¬ b = D := fun b hb e => ho.not_bare (B := 0) hb ⟨Nat.zero_le _, _, e ▸ hKD, rfl⟩
    generalize W.putObj D (.deferred none) = W9 at hkD ⊢
    obtain ⟨z0, z1⟩ := (hblk.kept hkD (fun e => by omega)).all2
    refine ⟨.agg #[.int .i64 0, .slice a n cc], by simp [results, Tryz.results19, go_sem, z0, z1], ?_⟩
    rw [hfin]
    refine ⟨a, cc, by simp only [hln], fun b hb => ?_, ?_, hk.next hkD (fun i hi e => by omega)⟩
    · simp only [hln] at hb
      exact Nat.le_trans hzz (hf b hb)
    · simp only [hln]
      exact ho.kept hkD (fun b hb e => hnD b hb e)
def AtR (n r : Int) : Prop := (n ≤ 1 → r = 0) ∧ (1 < n → 0 ≤ r ∧ r < n)
theorem lwAt_any (v : Value) (cs : List Int) (k : Nat) (n : Int) (w : World) (hb : IsB cs) (hfew : cs.length ≤ 1048576) (hk : k ≤ 1048576) (hn : IsI n) (hv : Rd .u8 w v cs) :
    Calls Tryz.prog 7 #[v, .int .i64 k, .int .i64 n] w fun e w' => ∃ r, e = .returned (.int .i64 r) ∧ AtR n r ∧ Same w w' := by
  obtain ⟨a, c, rfl⟩ := hv.form
  obtain ⟨hn1, hn2⟩ := hn
  by_cases h1 : n ≤ 1
  · go_enter Tryz.func7, Tryz.ntmps7
    go_wp2
    go_ret
    exact ⟨0, rfl, ⟨fun _ => rfl, fun h => by omega⟩, Kept.refl _ _⟩
  · by_cases h2 : cs.length = 0
    · have e0 : ((cs.length : Nat) : Int) = 0 := by omega
      rw [h2]
      go_enter Tryz.func7, Tryz.ntmps7
      go_wp2
      go_ret
      exact ⟨_, rfl, ⟨fun h => by omega, fun h => ⟨Int.emod_nonneg _ (by omega), Int.emod_lt_of_pos _ (by omega)⟩⟩, Kept.refl _ _⟩
    · obtain ⟨b, off, rfl, hc⟩ : ∃ b off, a = some ⟨b, off, none⟩ ∧ ∀ i, i < cs.length → w.cell? ⟨b, off + i, none⟩ = some (.int .u8 (cs.getD i 0)) := by
        rcases hv.2 with ⟨hnil, _⟩ | ⟨b, off, c', h, _, hc⟩
        · rw [hnil] at h2
          simp at h2
        · cases h
          exact ⟨b, off, rfl, hc⟩
      have q1 := hc (k % cs.length) (Nat.mod_lt _ (by omega))
      have q2 := hc ((k + 1) % cs.length) (Nat.mod_lt _ (by omega))
      have x1 := hb.at (k % cs.length) (Nat.mod_lt _ (by omega))
      have x2 := hb.at ((k + 1) % cs.length) (Nat.mod_lt _ (by omega))
      have m1 : (k : Int) % (cs.length : Int) = ((k % cs.length : Nat) : Int) := by simp
      have m2 : ((k : Int) + 1) % (cs.length : Int) = (((k + 1) % cs.length : Nat) : Int) := by simp
      have l1 := Nat.mod_lt k (y := cs.length) (by omega)
      have l2 := Nat.mod_lt (k + 1) (y := cs.length) (by omega)
      have d1 : (k : Int) / (cs.length : Int) = ((k / cs.length : Nat) : Int) := by simp
      have d2 : k / cs.length ≤ k := Nat.div_le_self _ _
      clear hc hv hb
      generalize cs.getD (k % cs.length) 0 = x at *
      generalize cs.getD ((k + 1) % cs.length) 0 = y at *
      generalize k % cs.length = i1 at *
      generalize (k + 1) % cs.length = i2 at *
      generalize k / cs.length = j1 at *
      generalize hl : cs.length = len at *
      have hl0 : (0 : Int) < (len : Int) := by omega
      have hl1 : ¬ (len : Int) = 0 := by omega
      have l1' : (i1 : Int) < (len : Int) := by omega
      have l2' : (i2 : Int) < (len : Int) := by omega
      by_cases h3 : 200 < n
      · go_enter Tryz.func7, Tryz.ntmps7
        go_wp2
        go_quiet (fail)
        go_wp2
        go_ret
        exact ⟨_, rfl, ⟨fun h => by omega, fun h => ⟨Int.emod_nonneg _ (by omega), Int.emod_lt_of_pos _ (by omega)⟩⟩, (Kept.refl _ _).drewN _⟩
      · go_enter Tryz.func7, Tryz.ntmps7
        go_wp2
        go_quiet (fail)
        go_wp2
        go_ret
        exact ⟨_, rfl, ⟨fun h => by omega, fun h => ⟨Int.emod_nonneg _ (by omega), Int.emod_lt_of_pos _ (by omega)⟩⟩, (Kept.refl _ _).drewN _⟩
theorem Tryz.infoI64 : (Tryz.prog.info? 2).map (fun i => (i.zero, i.size, i.bytes)) = some (some (.int .i64 0), 1, 8) := by kernel_rfl
theorem news_ofZ {w : World} {b off : Nat} {bs : List Int} (hc : ∀ i, i < bs.length → w.cell? ⟨b, off + i, none⟩ = some (.int .i64 (bs.getD i 0))) (j : Nat) (u : Value) (h : (vals .i64 bs)[j]? = some u) : w.cell? ((⟨b, off, none⟩ : Addr).add j) = some u := by
  have hj : j < bs.length := by have := (List.getElem?_eq_some_iff.1 h).1; rwa [vals_length] at this
  rw [vals_at _ _ _ hj] at h
  have e : (⟨b, off, none⟩ : Addr).add j = ⟨b, off + j, none⟩ := by
    unfold Addr.add
    split
    · next h => subst h; rfl
    · rfl
  rw [e, hc j hj]
  exact h
theorem run_appZ {ty : TypeId} {w : World} {v x : Value} {bs ys : List Int} (ho : Own 0 2 .i64 w v bs) (hx : Rd .i64 w x ys) (hl : bs.length + ys.length ≤ 1099511627776) :
    ∃ a n c w', (Builtin.append_ #[55, 55] ty #[v, x]).run Tryz.prog w = .ok (.slice a n c) w' ∧ Own 0 2 .i64 w' (.slice a n c) (bs ++ ys) ∧ Grew w v w' (.slice a n c) := by
  obtain ⟨i0, hi, hz0, hz1, hz2⟩ := info_parts Tryz.infoI64
  have some_case : ∀ (ad : Addr) (c : Nat), (∀ j u, (vals .i64 ys)[j]? = some u → w.cell? (ad.add j) = some u) → ∃ a n c' w', (Builtin.append_ #[55, 55] ty #[v, .slice (some ad) ys.length c]).run Tryz.prog w = .ok (.slice a n c') w' ∧ Own 0 2 .i64 w' (.slice a n c') (bs ++ ys) ∧ Grew w v w' (.slice a n c') := fun ad c hn => by
    obtain ⟨v', w', hr, h2, h3, _, h5⟩ := run_append_own_at (P := Tryz.prog) w 0 55 ty 2 i0 (.int .i64 0) 1 8 Tryz.underlying55 hi hz0 hz1 hz2 rfl (by decide) v bs.length (vals .i64 bs) ho ad ys.length c (vals .i64 ys) (by simp [vals_length]) hn vals_one (by unfold maxLen; omega) (by omega) (Nat.zero_le _)
    have h2' : Own 0 2 .i64 w' v' (bs ++ ys) := by unfold Own; simpa [vals] using h2
    obtain ⟨a, n, c', rfl⟩ := slice_of_own h2'
    refine ⟨a, n, c', w', hr, h2', Kept.of_grown h3 (fun k e => e), fun b hb => ?_⟩
    rcases h5 with h5 | h5
    · exact .inl (by rw [← h5]; exact hb)
    · rw [h5] at hb
      exact .inr (by have := Option.some.inj hb; omega)
  rcases hx.2 with ⟨rfl, a, c, rfl, hac⟩ | ⟨b, off, c, rfl, _, hc⟩
  · cases a with
    | none =>
      obtain rfl : c = 0 := hac rfl
      have hr := run_append_owned_none (P := Tryz.prog) (w := w) 0 55 ty 2 i0 1 Tryz.underlying55 hi v bs.length (vals .i64 bs) ho
      obtain ⟨a, n, c', rfl⟩ := slice_of_own ho
      exact ⟨a, n, c', w, hr, by rw [List.append_nil]; exact ho, Grew.refl _ _⟩
    | some ad => exact some_case ad c (fun j u h => by simp [vals] at h)
  · exact some_case ⟨b, off, none⟩ c (news_ofZ hc)
theorem wp_appZ {w : World} {o : Oper} {a : Act} {K : Act → World → Prop} {Q : Exit → Act → World → Prop} (s x : Operand)
    (ho : o.op = .call { callee := .builtin .append, args := #[s, x], argTypes := #[55, 55] })
    (v xv : Value) (bs ys : List Int) (hs : a.eval s = v) (hx : a.eval x = xv) (hown : Own 0 2 .i64 w v bs) (hrd : Rd .i64 w xv ys) (hl : bs.length + ys.length ≤ 1099511627776)
    (h : ∀ a' n' c' w', Own 0 2 .i64 w' (.slice a' n' c') (bs ++ ys) → Grew w v w' (.slice a' n' c') → K (a.put o.dst (.slice a' n' c')) w') : o.wp Tryz.prog a w K Q := by
  obtain ⟨a', n', c', w', hr, h2, h3⟩ := run_appZ (ty := o.type) hown hrd hl
  unfold Oper.wp execOp
  simp only [ho, resolve, invoke, builtin, Sem.run_bind, Sem.run_pure, Result.andThen_ok, List.map_toArray, List.map_cons, List.map_nil, hs, hx, hr]
  exact h a' n' c' w' h2 h3
theorem wpList_appZ {w : World} {ops : Array Oper} {rest : List Oper} {o : Oper} {a : Act} {Q : Exit → Act → World → Prop} (hgd : o.guard = none) (s x : Operand)
    (ho : o.op = .call { callee := .builtin .append, args := #[s, x], argTypes := #[55, 55] })
    (v xv : Value) (bs ys : List Int) (hs : a.eval s = v) (hx : a.eval x = xv) (hown : Own 0 2 .i64 w v bs) (hrd : Rd .i64 w xv ys) (hl : bs.length + ys.length ≤ 1099511627776)
    (h : ∀ a' n' c' w', Own 0 2 .i64 w' (.slice a' n' c') (bs ++ ys) → Grew w v w' (.slice a' n' c') → wpList Tryz.prog ops Q rest (a.put o.dst (.slice a' n' c')) w') : wpList Tryz.prog ops Q (o :: rest) a w :=
  wpList_plain hgd fun _ hK => wp_appZ s x ho v xv bs ys hs hx hown hrd hl fun a' n' c' w' h2 h3 => hK _ _ (h a' n' c' w' h2 h3)
theorem rd_oneZ (w : World) (x : Int) : Rd .i64 (w.alloc (.cells #[.int .i64 x] 2)) (.slice (some ⟨w.heap.size, 0, none⟩) 1 1) [x] := by
  have h := Blk.newL w [.int .i64 x] 2
  refine ⟨by simp [maxLen], .inr ⟨w.heap.size, 0, 1, rfl, Nat.le_refl _, fun i hi => ?_⟩⟩
  obtain rfl : i = 0 := by simpa using hi
  exact h.c0
def LenE (w w' : World) (bs : List Int) (e : Ending) : Prop := ∃ a n c, e = .returned (.slice a n c) ∧ Own 0 2 .i64 w' (.slice a n c) bs ∧ (∀ b, (Value.slice a n c).ownBlock = some b → w.heap.size ≤ b) ∧ Same w w'
theorem LenE.of {w w' : World} {bs : List Int} {e : Ending} (h : LenE w w' bs e) : ∃ a c, e = .returned (.slice a bs.length c) ∧ (∀ b, (Value.slice a bs.length c).ownBlock = some b → w.heap.size ≤ b) ∧ Own 0 2 .i64 w' (.slice a bs.length c) bs ∧ Same w w' := by
  obtain ⟨a, n, c, rfl, ho, hf, hk⟩ := h
  obtain rfl : n = bs.length := by
    rcases ho.form with ⟨h, h'⟩ | ⟨g', cap, h, _⟩
    · cases h; rw [h']; rfl
    · cases h; rfl
  exact ⟨a, c, rfl, hf, ho, hk⟩
theorem emptyAtZ (w : World) : Own 0 2 .i64 (w.alloc (Obj.cells #[] 2)) (.slice (some ⟨w.heap.size, 0, none⟩) 0 0) [] :=
  ⟨by simp [vals], .inr ⟨w.heap.size, 0, #[], rfl, Nat.zero_le _, by unfold World.alloc; exact Array.getElem?_push_size, Nat.le_refl _, Nat.zero_le _, by simp [vals]⟩⟩
def KpR (w w' : World) (e : Ending) : Prop := ∃ (a : Option Addr) (n c : Nat) (ks : List Int), e = .returned (.slice a n c) ∧ n = ks.length ∧ ks.length = 60 ∧ Own 0 2 .i64 w' (.slice a n c) ks ∧ (∀ b, (Value.slice a n c).ownBlock = some b → w.heap.size ≤ b) ∧ Same w w'
theorem own_n {e : TypeId} {k : IntKind} {w : World} {a : Option Addr} {n c : Nat} {bs : List Int} (h : Own 0 e k w (.slice a n c) bs) : n = bs.length := by
  rcases h.form with ⟨h, h'⟩ | ⟨g', cap, h, _⟩
  · cases h; rw [h']; rfl
  · cases h; rfl
theorem keep_any (v : Value) (cs : List Int) (k : Nat) (w : World) (hb : IsB cs) (hfew : cs.length ≤ 1048576) (hk : k ≤ 1000) (hv : Rd .u8 w v cs) :
    Calls Tryz.prog 16 #[v, .int .i64 (k : Int)] w fun e w' => KpR w w' e := by
  have kA := fun (j : Nat) (hj : j ≤ 2000) (n : Int) (hn : IsI n) wx (hx : Same w wx) => lwAt_any v cs j n wx hb hfew (by omega) hn (hv.same hx)
  obtain ⟨va, vc, rfl⟩ := hv.form
  generalize cs.length = cn at kA
  clear hv hb hfew
  have HO0 := hid (emptyAtZ w)
  have HK0 := (show Hid (Same w (w.alloc (Obj.cells #[] 2))) from (Kept.refl _ _).alloc _)
  go_enter Tryz.func16, Tryz.ntmps16
  go_wp2_with fail
  refine (kA k (by omega) 5 (by constructor <;> decide) _ HK0.out).mono ?_
  rintro e w1 ⟨ln, rfl, _, hk1⟩
  have HK1 := hid (HK0.out.trans hk1)
  have HO1 := hid (HO0.out.same hk1)
  clear hk1 HK0 HO0
  go_wp2_with fail
  go_loopw [5, 7] (fun o i wr => ∃ (j : Nat) (a : Option Addr) (n c : Nat) (ks : List Int), j ≤ 60 ∧ i = .int .i64 (j : Int) ∧ o = .slice a n c ∧ ks.length = j ∧ Hid (Own 0 2 .i64 wr (.slice a n c) ks) ∧ Hid (∀ b, (Value.slice a n c).ownBlock = some b → w.heap.size ≤ b) ∧ Hid (Same w wr)) (fun _ i _ => 60 - (intOf i).toNat)
  case atStart => exact ⟨0, _, _, _, [], Nat.zero_le _, rfl, rfl, rfl, HO1, fun b hb => by have e : w.heap.size = b := (by simpa [Value.ownBlock] using hb); omega, HK1⟩
  case round =>
    obtain ⟨j, a, n, c, ks, hj, rfl, rfl, hkl, HO, HF, HK⟩ := hrel
    by_cases hlt : j < 60
    case neg =>
      go_wp2
      go_ret
      exact ⟨a, n, c, ks, rfl, own_n HO.out, by omega, HO.out, HF.out, HK.out⟩
    have hwj : IntKind.i64.wrap ((k : Int) + (j : Int)) = ((k + j : Nat) : Int) := by rw [IntKind.wrap_i64]; omega
    have k1 := kA (k + j) (by omega) 2 (by constructor <;> decide) _ HK.out
    have k5 := fun wx hx => kA (k + j) (by omega) 5 (by constructor <;> decide) wx hx
    generalize k + j = kj at hwj k1 k5
    have HKL := hid hkl
    clear hkl
    go_wp2_with fail
    refine k1.mono ?_
    rintro e w2 ⟨r, rfl, _, hk2⟩
    have HK2 := hid (HK.out.trans hk2)
    have HO2 := hid (HO.out.same hk2)
    clear hk2 k1
    by_cases h0 : ln = 0
    · subst h0
      have HOA := hid (HO2.out.same ((Kept.refl (fun _ => False) _).alloc (.cells #[.int .i64 1] 2)))
      go_wp2_with (at_builtin; refine wpList_appZ rfl (.tmp 36) (.tmp 38) rfl (.slice a n c) _ ks [1] rfl rfl HOA.out (rd_oneZ w2 1) (by have := HKL.out; simp; omega) ?_; intro a6 n6 c6 w6 ho6 hg6; have HO6 := hid ho6; have HG6 := hid hg6; clear ho6 hg6)
      go_roundw
      case rel => exact ⟨j + 1, a6, n6, c6, _, by omega, by go_num, rfl, by have := HKL.out; simp; omega, HO6, fun b hb => by rcases HG6.out.2 b hb with h | h; exact HF.out b h; rw [World.size_alloc] at h; have := HK2.out.size; omega, (HK2.out.alloc _).next HG6.out.1 (fun i hi e => by have := HF.out i e; omega)⟩
      case measure => simp [intOf]; omega
    have e0 : (ln == 0) = false := by simp [h0]
    by_cases h1 : ln = 1
    · subst h1
      go_wp2_with fail
      refine (k5 _ HK2.out).mono ?_
      rintro e w3 ⟨r5, rfl, _, hk3⟩
      have HK3 := hid (HK2.out.trans hk3)
      have HO3 := hid (HO2.out.same hk3)
      clear hk3 k5 HK2 HO2
      by_cases hr : 0 < r5
      · have HOA := hid (HO3.out.same ((Kept.refl (fun _ => False) _).alloc (.cells #[.int .i64 1] 2)))
        go_wp2_with (at_builtin; refine wpList_appZ rfl (.tmp 36) (.tmp 38) rfl (.slice a n c) _ ks [1] rfl rfl HOA.out (rd_oneZ w3 1) (by have := HKL.out; simp; omega) ?_; intro a6 n6 c6 w6 ho6 hg6; have HO6 := hid ho6; have HG6 := hid hg6; clear ho6 hg6)
        go_roundw
        case rel => exact ⟨j + 1, a6, n6, c6, _, by omega, by go_num, rfl, by have := HKL.out; simp; omega, HO6, fun b hb => by rcases HG6.out.2 b hb with h | h; exact HF.out b h; rw [World.size_alloc] at h; have := HK3.out.size; omega, (HK3.out.alloc _).next HG6.out.1 (fun i hi e => by have := HF.out i e; omega)⟩
        case measure => simp [intOf]; omega
      · have HOA := hid (HO3.out.same ((Kept.refl (fun _ => False) _).alloc (.cells #[.int .i64 r] 2)))
        go_wp2_with (at_builtin; refine wpList_appZ rfl (.tmp 36) (.tmp 38) rfl (.slice a n c) _ ks [r] rfl rfl HOA.out (rd_oneZ w3 r) (by have := HKL.out; simp; omega) ?_; intro a6 n6 c6 w6 ho6 hg6; have HO6 := hid ho6; have HG6 := hid hg6; clear ho6 hg6)
        go_roundw
        case rel => exact ⟨j + 1, a6, n6, c6, _, by omega, by go_num, rfl, by have := HKL.out; simp; omega, HO6, fun b hb => by rcases HG6.out.2 b hb with h | h; exact HF.out b h; rw [World.size_alloc] at h; have := HK3.out.size; omega, (HK3.out.alloc _).next HG6.out.1 (fun i hi e => by have := HF.out i e; omega)⟩
        case measure => simp [intOf]; omega
    have e1 : (ln == 1) = false := by simp [h1]
    by_cases h2 : ln = 2
    · subst h2
      have HOA := hid (HO2.out.same ((Kept.refl (fun _ => False) _).alloc (.cells #[.int .i64 0] 2)))
      go_wp2_with (at_builtin; refine wpList_appZ rfl (.tmp 36) (.tmp 38) rfl (.slice a n c) _ ks [0] rfl rfl HOA.out (rd_oneZ w2 0) (by have := HKL.out; simp; omega) ?_; intro a6 n6 c6 w6 ho6 hg6; have HO6 := hid ho6; have HG6 := hid hg6; clear ho6 hg6)
      go_roundw
      case rel => exact ⟨j + 1, a6, n6, c6, _, by omega, by go_num, rfl, by have := HKL.out; simp; omega, HO6, fun b hb => by rcases HG6.out.2 b hb with h | h; exact HF.out b h; rw [World.size_alloc] at h; have := HK2.out.size; omega, (HK2.out.alloc _).next HG6.out.1 (fun i hi e => by have := HF.out i e; omega)⟩
      case measure => simp [intOf]; omega
    have e2 : (ln == 2) = false := by simp [h2]
    have HOA := hid (HO2.out.same ((Kept.refl (fun _ => False) _).alloc (.cells #[.int .i64 r] 2)))
    go_wp2_with (at_builtin; refine wpList_appZ rfl (.tmp 36) (.tmp 38) rfl (.slice a n c) _ ks [r] rfl rfl HOA.out (rd_oneZ w2 r) (by have := HKL.out; simp; omega) ?_; intro a6 n6 c6 w6 ho6 hg6; have HO6 := hid ho6; have HG6 := hid hg6; clear ho6 hg6)
    go_roundw
    case rel => exact ⟨j + 1, a6, n6, c6, _, by omega, by go_num, rfl, by have := HKL.out; simp; omega, HO6, fun b hb => by rcases HG6.out.2 b hb with h | h; exact HF.out b h; rw [World.size_alloc] at h; have := HK2.out.size; omega, (HK2.out.alloc _).next HG6.out.1 (fun i hi e => by have := HF.out i e; omega)⟩
    case measure => simp [intOf]; omega
end Go.Proofs.YtdbpaadndaoihaaGreatDoor
