import Derived.Test.YtaeikeglaobeeaaGreatG00
import Derived.Test.YtaeikeglaobeeaaGreatG02
import Derived.Laws.AppendOwnNone
namespace Go.Proofs.YtaeikeglaobeeaaGreat
set_option maxHeartbeats 16000000
set_option maxRecDepth 100000
set_option linter.unusedVariables false
set_option linter.unusedSimpArgs false
open Go.RowKit
theorem clone_any (v : Value) (bs : List Int) (w : World) (hn : bs.length ≤ 1099511627776) (hv : Rd .u8 w v bs) :
  Calls Tryz.prog 52 #[v] w fun e w' => ∃ a n c, e = .returned (.slice a n c) ∧ Own 0 5 .u8 w' (.slice a n c) bs ∧ (∀ b, (Value.slice a n c).ownBlock = some b → w.heap.size ≤ b) ∧ Same w w' := by
 obtain ⟨i0, hi, hz0, hz1, hz2⟩ := info_parts Tryz.infoByte'
 have hnil := fun (wx : World) (a : Option Addr) (n c : Nat) => Lib.run_eql_slice_nil (P := Tryz.prog) wx 22 5 a n c 0 0 Tryz.underlying22
 rcases hv.2 with ⟨rfl, a, c, rfl, hac⟩ | ⟨b, off, c, rfl, _, hc⟩
 ·cases a with
  | none =>
   obtain rfl : c = 0 := hac rfl
   clear hv hn hac
   go_enter Tryz.func52, Tryz.ntmps52
   go_wp2
   go_ret
   exact ⟨_, _, _, rfl, Own.nil _ _ _ _, fun b hb => by simp [Value.ownBlock] at hb, Kept.refl _ _⟩
  | some ad =>
   clear hv hn hac
   go_enter Tryz.func52, Tryz.ntmps52
   go_wp2_with (at_builtin; refine wpList_append_own _ rfl (.tmp 5) (.tmp 6) 22 rfl w.heap.size 5 i0 (.int .u8 0) 1 1 Tryz.underlying22 hi hz0 hz1 hz2 rfl (by decide) (.slice (some ⟨w.heap.size, 0, none⟩) 0 0) 0 [] rfl (World.ownsRow_made w #[] 0 (Nat.le_refl _) (by simp) (by simp)) ad 0 c [] rfl rfl (fun j u h => by simp at h) (fun u h => by simp at h) (by simp) (by simp) (by simp) ?_; intro v' w1 hown1 hgrow1 _; have HF := (show Hid (Own w.heap.size 5 .u8 w1 v' []) from hown1); have HK : Hid (Same w w1) := ((Kept.refl _ _).alloc _).grown hgrow1 (fun k e => .inl (by simp [Value.ownBlock] at e; omega)); obtain ⟨aa, na, ca, rfl⟩ := slice_of_own HF.out; clear hown1 hgrow1)
   go_ret
   exact ⟨_, _, _, rfl, HF.out.mono (fun b _ => Nat.zero_le b), fun b hb => (HF.out.lt b hb).1, HK.out⟩
 ·have HC : Hid (∀ i, i < bs.length → (w.alloc (.cells #[] 5)).cell? ⟨b, off + i, none⟩ = some (.int .u8 (bs.getD i 0))) := fun i hi => ((Kept.refl (fun _ => False) w).alloc _).cellOf (hc i hi) id
  clear hv hc
  go_enter Tryz.func52, Tryz.ntmps52
  go_wp2_with (at_builtin; refine wpList_append_own _ rfl (.tmp 5) (.tmp 6) 22 rfl w.heap.size 5 i0 (.int .u8 0) 1 1 Tryz.underlying22 hi hz0 hz1 hz2 rfl (by decide) (.slice (some ⟨w.heap.size, 0, none⟩) 0 0) 0 [] rfl (World.ownsRow_made w #[] 0 (Nat.le_refl _) (by simp) (by simp)) ⟨b, off, none⟩ bs.length c (vals .u8 bs) rfl (by simp [vals_length]) (news_of HC.out) vals_one (by unfold maxLen; omega) (by omega) (by simp) ?_; intro v' w1 hown1 hgrow1 _; have HF := (show Hid (Own w.heap.size 5 .u8 w1 v' bs) from (by simpa [Own, Hid] using hown1)); have HK : Hid (Same w w1) := ((Kept.refl _ _).alloc _).grown hgrow1 (fun k e => .inl (by simp [Value.ownBlock] at e; omega)); obtain ⟨aa, na, ca, rfl⟩ := slice_of_own HF.out; clear hown1 hgrow1)
  go_ret
  exact ⟨_, _, _, rfl, HF.out.mono (fun b _ => Nat.zero_le b), fun b hb => (HF.out.lt b hb).1, HK.out⟩
def StLogRecord.cells (y : StLogRecord) : List Value := [.int .i64 y.kind, .int .i64 y.txn, .int .i64 y.prev, .int .i64 y.page, .int .i64 y.slot, .bool y.before.used, y.before.data.v, .bool y.after.used, y.after.data.v, .int .i64 y.uN, .int .i64 y.nT, y.txns.v, y.dirty.v, y.image.v]
def zCells : List Value := [.bool false, .int .i64 0, .int .i64 0, .int .i64 0, .int .i64 0, .int .i64 0, .bool false, .slice none 0 0, .bool false, .slice none 0 0, .int .i64 0, .int .i64 0, .slice none 0 0, .slice none 0 0, .slice none 0 0]
def nilB : BS := ⟨5, none, 0, []⟩
def nilF (e : TypeId) : FR := ⟨e, none, 0, 0, []⟩
def rec0 (k t p : Int) : StLogRecord := ⟨k, t, p, 0, 0, ⟨false, nilB⟩, ⟨false, nilB⟩, 0, 0, nilF 50, nilF 52, nilB⟩
theorem own_nilB (w : World) : OwnL w nilB.rows := OwnL.one (Own.nil 0 _ .u8 _)
theorem foot_nilB {b : Nat} (h : FootL nilB.rows b) : False := by have h := (footL_ints _ _ _ _ _).1 h; simp [nilB, BS.v, Value.ownBlock] at h
theorem own_nilF (m : Nat) (e : TypeId) (w : World) : OwnL w ((nilF e).rows m) :=
 ⟨fun r hr => by rw [List.mem_singleton.1 hr]; exact ⟨by simp [vals, nilF], .inl ⟨rfl, rfl⟩⟩, List.pairwise_singleton _ _⟩
theorem foot_nilF {m : Nat} {e : TypeId} {b : Nat} (h : FootL ((nilF e).rows m) b) : False := by have h := (FootL_one _ _).1 h; simp [nilF, FR.v, Value.ownBlock] at h
theorem own_rec0 (k t p : Int) (w : World) : OwnL w (rec0 k t p).rows :=
 (own_nilB w).append ((own_nilB w).append ((own_nilF _ _ w).append ((own_nilF _ _ w).append (own_nilB w) (fun b h => (foot_nilF h).elim)) (fun b h => (foot_nilF h).elim)) (fun b h => (foot_nilB h).elim)) (fun b h => (foot_nilB h).elim)
theorem foot_rec0 {k t p : Int} {b : Nat} (h : FootL (rec0 k t p).rows b) : False := by
 rcases (FootL_append _ _ _).1 h with h | h
 ·exact foot_nilB h
 rcases (FootL_append _ _ _).1 h with h | h
 ·exact foot_nilB h
 rcases (FootL_append _ _ _).1 h with h | h
 ·exact foot_nilF h
 rcases (FootL_append _ _ _).1 h with h | h
 ·exact foot_nilF h
 ·exact foot_nilB h
structure DcI (w wx : World) (v : Value) (bs rs : List Int) (lim P R Z : Nat) (y : StLogRecord) : Prop where
 rs : RS wx w.heap.size P v bs rs lim
 box : Blk wx R 28 y.cells
 res : Blk wx Z 30 zCells
 kept : Same w wx
 own : OwnL wx y.rows
 foot : ∀ b, FootL y.rows b → w.heap.size ≤ b ∧ b ≠ P ∧ b ≠ R ∧ b ≠ Z
 pl : w.heap.size ≤ R ∧ w.heap.size ≤ Z ∧ P ≠ R ∧ P ≠ Z ∧ R ≠ Z
variable {w wx wy : World} {v : Value} {bs rs rs' : List Int} {lim lim' P R Z : Nat} {y y' : StLogRecord}
theorem DcI.read (h : DcI w wx v bs rs lim P R Z y) (hr : RS wy w.heap.size P v bs rs' lim') (hk : Kept (fun b => b = P) wx wy) : DcI w wy v bs rs' lim' P R Z y :=
 ⟨hr, h.box.kept hk (fun e => h.pl.2.2.1 e.symm), h.res.kept hk (fun e => h.pl.2.2.2.1 e.symm), h.kept.next hk (fun i hi e => by have := h.rs.le; omega), h.own.kept hk (fun b hb e => (h.foot b hb).2.1 e), h.foot, h.pl⟩
theorem DcI.same (h : DcI w wx v bs rs lim P R Z y) (hk : Same wx wy) : DcI w wy v bs rs lim P R Z y :=
 ⟨h.rs.same hk, h.box.same hk, h.res.same hk, h.kept.trans hk, h.own.same hk, h.foot, h.pl⟩
theorem DcI.aside {X : Nat} (h : DcI w wx v bs rs lim P R Z y) (hk : Kept (fun b => b = X) wx wy) (h0 : w.heap.size ≤ X) (hP : X ≠ P) (hR : X ≠ R) (hZ : X ≠ Z) (hf : ∀ b, FootL y.rows b → b ≠ X) : DcI w wy v bs rs lim P R Z y :=
 ⟨h.rs.keep hk (fun e => hP e.symm) (fun b _ e => by omega), h.box.kept hk (fun e => hR e.symm), h.res.kept hk (fun e => hZ e.symm), h.kept.next hk (fun i hi e => by omega), h.own.kept hk (fun b hb e => hf b hb e), h.foot, h.pl⟩
theorem DcI.wrote (h : DcI w wx v bs rs lim P R Z y) (hk : Kept (fun b => b = R) wx wy) (hb : Blk wy R 28 y'.cells) (ho : OwnL wx y'.rows) (hf : ∀ b, FootL y'.rows b → w.heap.size ≤ b ∧ b ≠ P ∧ b ≠ R ∧ b ≠ Z) : DcI w wy v bs rs lim P R Z y' :=
 ⟨h.rs.keep hk (fun e => h.pl.2.2.1 e) (fun b _ e => by have := h.pl.1; omega), hb, h.res.kept hk (fun e => h.pl.2.2.2.2 e.symm), h.kept.next hk (fun i hi e => by have := h.pl.1; omega), ho.kept hk (fun b hb e => (hf b hb).2.2.1 e), hf, h.pl⟩
theorem DcI.num (h : DcI w wx v bs rs lim P R Z y) (j : Nat) (x : Value) (y' : StLogRecord) (hc : y'.cells = y.cells.set j x) (hr : y'.rows = y.rows) : DcI w (wx.setCell ⟨R, j, none⟩ x) v bs rs lim P R Z y' :=
 h.wrote ((Kept.refl (fun b => b = R) wx).setCell (p := ⟨R, j, none⟩) (.inr rfl) _) (by rw [hc]; exact h.box.stored j x) (hr ▸ h.own) (fun b hb => h.foot b (hr ▸ hb))
theorem OwnL.under {F : Nat → Prop} {A L L' : List Row} (h : OwnL wx (A ++ L)) (hk : Kept F wx wy) (hF : ∀ b, FootL A b → ¬ F b) (h' : OwnL wy L') (hf : ∀ b, FootL L' b → FootL L b ∨ wx.heap.size ≤ b) : OwnL wy (A ++ L') :=
 (h.left.kept hk hF).append h' (fun b h1 h2 => (hf b h2).elim (h.cut b h1) (fun n => by have := h.left.lt b h1; omega))
theorem foot_under {A L L' : List Row} {n : Nat} (hf : ∀ b, FootL L' b → FootL L b ∨ n ≤ b) : ∀ b, FootL (A ++ L') b → FootL (A ++ L) b ∨ n ≤ b := fun b hb =>
 ((FootL_append _ _ _).1 hb).elim (fun h => .inl ((FootL_append _ _ _).2 (.inl h))) (fun h => (hf b h).imp (fun h => (FootL_append _ _ _).2 (.inr h)) id)
theorem foot_swap {B B' C : List Row} {n : Nat} (hf : ∀ b, FootL B' b → FootL B b ∨ n ≤ b) : ∀ b, FootL (B' ++ C) b → FootL (B ++ C) b ∨ n ≤ b := fun b hb =>
 ((FootL_append _ _ _).1 hb).elim (fun h => (hf b h).imp (fun h => (FootL_append _ _ _).2 (.inl h)) id) (fun h => .inl ((FootL_append _ _ _).2 (.inr h)))
theorem OwnL.swap {B B' C : List Row} (h : OwnL wx (B ++ C)) (hk : Kept (FootL B) wx wy) (h' : OwnL wy B') (hf : ∀ b, FootL B' b → FootL B b ∨ wx.heap.size ≤ b) : OwnL wy (B' ++ C) :=
 h'.append (h.right.kept hk (fun b h1 h2 => h.cut b h2 h1)) (fun b h1 h2 => (hf b h1).elim (fun h3 => h.cut b h3 h2) (fun n => by have := h.right.lt b h2; omega))
theorem DcI.next {wz : World} (h : DcI w wx v bs rs lim P R Z y) {F : Nat → Prop} (hk : Kept F wx wy) (hF : ∀ b, F b → FootL y.rows b) (ho : OwnL wy y'.rows) (hf : ∀ b, FootL y'.rows b → FootL y.rows b ∨ wx.heap.size ≤ b) (hz : Kept (fun b => b = R) wy wz) (hb : Blk wy R 28 y.cells → Blk wz R 28 y'.cells) : DcI w wz v bs rs lim P R Z y' := by
 have e1 := h.rs.lt
 have e2 := h.box.lt
 have e3 := h.res.lt
 have e4 := h.kept.size
 have e5 := hk.size
 have g : ∀ b, F b → w.heap.size ≤ b ∧ b ≠ P ∧ b ≠ R ∧ b ≠ Z := fun b hb => h.foot b (hF b hb)
 have f' : ∀ b, FootL y'.rows b → w.heap.size ≤ b ∧ b ≠ P ∧ b ≠ R ∧ b ≠ Z := fun b hb => (hf b hb).elim (h.foot b) (fun n => by omega)
 have e6 := h.pl
 exact ⟨(h.rs.keep hk (fun e => (g P e).2.1 rfl) (fun b _ e => (g b e).1)).keep hz (fun e => h.pl.2.2.1 e) (fun b _ e => by omega), hb (h.box.kept hk (fun e => (g R e).2.2.1 rfl)), (h.res.kept hk (fun e => (g Z e).2.2.2 rfl)).kept hz (fun e => h.pl.2.2.2.2 e.symm), (h.kept.next hk (fun i hi e => by have := (g i e).1; omega)).next hz (fun i hi e => by omega), ho.kept hz (fun b hb e => (f' b hb).2.2.1 e), f', h.pl⟩
theorem DcI.slotB (h : DcI w wx v bs rs lim P R Z y) (q : StPageRecord) (n : Nat) (hn : wx.heap.size ≤ n) (hr : RS wy w.heap.size P v bs rs' lim') (hkr : Kept (fun b => b = P) wx wy) (hq : OwnL wy q.rows) (hf : ∀ b, FootL q.rows b → n ≤ b) : DcI w ((wy.setCell ⟨R, 5, none⟩ (.bool q.used)).setCell ⟨R, 6, none⟩ q.data.v) v bs rs' lim' P R Z { y with before := q } := by
 have h1 := h.read hr hkr
 have ho := h1.own
 refine h1.wrote (((Kept.refl (fun b => b = R) wy).setCell (p := ⟨R, 5, none⟩) (.inr rfl) _).setCell (p := ⟨R, 6, none⟩) (.inr rfl) _) ((h1.box.stored 5 _).stored 6 _) (hq.append ho.right (fun b hb hc => ?_)) (fun b hb => ?_)
 ·have := (h.own.right).lt b hc
  have := hf b hb
  omega
 ·rcases (FootL_append _ _ _).1 hb with h2 | h2
  ·have := hf b h2
   have e1 := h.rs.lt
   have e2 := h.box.lt
   have e3 := h.res.lt
   have e4 := h.kept.size
   omega
  ·exact h.foot b ((FootL_append _ _ _).2 (.inr h2))
theorem DcI.slotA (h : DcI w wx v bs rs lim P R Z y) (q : StPageRecord) (n : Nat) (hn : wx.heap.size ≤ n) (hr : RS wy w.heap.size P v bs rs' lim') (hkr : Kept (fun b => b = P) wx wy) (hq : OwnL wy q.rows) (hf : ∀ b, FootL q.rows b → n ≤ b) : DcI w ((wy.setCell ⟨R, 7, none⟩ (.bool q.used)).setCell ⟨R, 8, none⟩ q.data.v) v bs rs' lim' P R Z { y with after := q } := by
 have h1 := h.read hr hkr
 have ho := h1.own
 refine h1.wrote (((Kept.refl (fun b => b = R) wy).setCell (p := ⟨R, 7, none⟩) (.inr rfl) _).setCell (p := ⟨R, 8, none⟩) (.inr rfl) _) ((h1.box.stored 7 _).stored 8 _) (ho.left.append (hq.append ho.right.right (fun b hb hc => ?_)) (fun b hb hc => ?_)) (fun b hb => ?_)
 ·have := (h.own.right.right).lt b hc
  have := hf b hb
  omega
 ·rcases (FootL_append _ _ _).1 hc with h2 | h2
  ·have := (h.own.left).lt b hb
   have := hf b h2
   omega
  ·exact h.own.cut b hb ((FootL_append _ _ _).2 (.inr h2))
 ·rcases (FootL_append _ _ _).1 hb with h2 | h2
  ·exact h.foot b ((FootL_append _ _ _).2 (.inl h2))
  rcases (FootL_append _ _ _).1 h2 with h2 | h2
  ·have := hf b h2
   have e1 := h.rs.lt
   have e2 := h.box.lt
   have e3 := h.res.lt
   have e4 := h.kept.size
   omega
  ·exact h.foot b ((FootL_append _ _ _).2 (.inr ((FootL_append _ _ _).2 (.inr h2))))
theorem DcI.img (h : DcI w wx v bs rs lim P R Z y) (q : BS) (hr : RS wy w.heap.size P v bs rs' lim') (hkr : Kept (fun b => b = P) wx wy) (hq : OwnL wy q.rows) (hf : ∀ b, FootL q.rows b → wx.heap.size ≤ b) : DcI w (wy.setCell ⟨R, 13, none⟩ q.v) v bs rs' lim' P R Z { y with image := q } := by
 have h1 := h.read hr hkr
 have hP : ∀ b, FootL y.rows b → ¬ b = P := fun b hb => (h.foot b hb).2.1
 have o4 := h.own.right.right.right.under hkr (fun b hb => hP b ((FootL_append _ _ _).2 (.inr ((FootL_append _ _ _).2 (.inr ((FootL_append _ _ _).2 (.inr ((FootL_append _ _ _).2 (.inl hb))))))))) hq (fun b hb => .inr (hf b hb))
 have f4 := foot_under (A := y.dirty.rows 2) (L := y.image.rows) (L' := q.rows) (n := wx.heap.size) (fun b hb => .inr (hf b hb))
 have o3 := h.own.right.right.under hkr (fun b hb => hP b ((FootL_append _ _ _).2 (.inr ((FootL_append _ _ _).2 (.inr ((FootL_append _ _ _).2 (.inl hb))))))) o4 f4
 have f3 := foot_under (A := y.txns.rows 4) f4
 have o2 := h.own.right.under hkr (fun b hb => hP b ((FootL_append _ _ _).2 (.inr ((FootL_append _ _ _).2 (.inl hb))))) o3 f3
 have f2 := foot_under (A := y.after.rows) f3
 have o1 := h.own.under hkr (fun b hb => hP b ((FootL_append _ _ _).2 (.inl hb))) o2 f2
 have f1 := foot_under (A := y.before.rows) f2
 refine h1.wrote ((Kept.refl (fun b => b = R) wy).setCell (p := ⟨R, 13, none⟩) (.inr rfl) _) (h1.box.stored 13 _) o1 (fun b hb => ?_)
 rcases f1 b hb with h2 | h2
 ·exact h.foot b h2
 ·have e1 := h.rs.lt
  have e2 := h.box.lt
  have e3 := h.res.lt
  have e4 := h.kept.size
  omega
theorem foot_fr {m : Nat} {x : FR} {b : Nat} : FootL (x.rows m) b ↔ x.v.ownBlock = some b := FootL_one _ _
theorem DcI.growT (h : DcI w wx v bs rs lim P R Z y) (hk : Kept (fun b => y.txns.v.ownBlock = some b) wx wy) (q : FR) (hq : OwnL wy (q.rows 4)) (hf : ∀ b, q.v.ownBlock = some b → y.txns.v.ownBlock = some b ∨ wx.heap.size ≤ b) : DcI w (wy.setCell ⟨R, 11, none⟩ q.v) v bs rs lim P R Z { y with txns := q } := by
 have hk' : Kept (FootL (y.txns.rows 4)) wx wy := hk.mono (fun b _ e => foot_fr.2 e)
 have hf' : ∀ b, FootL (q.rows 4) b → FootL (y.txns.rows 4) b ∨ wx.heap.size ≤ b := fun b hb => (hf b (foot_fr.1 hb)).imp foot_fr.2 id
 have hin : ∀ b, FootL (y.txns.rows 4) b → FootL (y.txns.rows 4 ++ (y.dirty.rows 2 ++ y.image.rows)) b := fun b hb => (FootL_append _ _ _).2 (.inl hb)
 have o3 := h.own.right.right.swap hk' hq hf'
 have f3 := foot_swap (C := y.dirty.rows 2 ++ y.image.rows) hf'
 have o2 := h.own.right.under hk' (fun b hb hc => h.own.right.cut b hb (hin b hc)) o3 f3
 have f2 := foot_under (A := y.after.rows) f3
 have o1 := h.own.under hk' (fun b hb hc => h.own.cut b hb ((FootL_append _ _ _).2 (.inr (hin b hc)))) o2 f2
 have f1 := foot_under (A := y.before.rows) f2
 exact h.next hk' (fun b hb => (FootL_append _ _ _).2 (.inr ((FootL_append _ _ _).2 (.inr (hin b hb))))) o1 f1 ((Kept.refl (fun b => b = R) wy).setCell (p := ⟨R, 11, none⟩) (.inr rfl) _) (fun hb => hb.stored 11 _)
theorem DcI.growD (h : DcI w wx v bs rs lim P R Z y) (hk : Kept (fun b => y.dirty.v.ownBlock = some b) wx wy) (q : FR) (hq : OwnL wy (q.rows 2)) (hf : ∀ b, q.v.ownBlock = some b → y.dirty.v.ownBlock = some b ∨ wx.heap.size ≤ b) : DcI w (wy.setCell ⟨R, 12, none⟩ q.v) v bs rs lim P R Z { y with dirty := q } := by
 have hk' : Kept (FootL (y.dirty.rows 2)) wx wy := hk.mono (fun b _ e => foot_fr.2 e)
 have hf' : ∀ b, FootL (q.rows 2) b → FootL (y.dirty.rows 2) b ∨ wx.heap.size ≤ b := fun b hb => (hf b (foot_fr.1 hb)).imp foot_fr.2 id
 have hin : ∀ b, FootL (y.dirty.rows 2) b → FootL (y.dirty.rows 2 ++ y.image.rows) b := fun b hb => (FootL_append _ _ _).2 (.inl hb)
 have hin2 : ∀ b, FootL (y.dirty.rows 2) b → FootL (y.txns.rows 4 ++ (y.dirty.rows 2 ++ y.image.rows)) b := fun b hb => (FootL_append _ _ _).2 (.inr (hin b hb))
 have o4 := h.own.right.right.right.swap hk' hq hf'
 have f4 := foot_swap (C := y.image.rows) hf'
 have o3 := h.own.right.right.under hk' (fun b hb hc => h.own.right.right.cut b hb (hin b hc)) o4 f4
 have f3 := foot_under (A := y.txns.rows 4) f4
 have o2 := h.own.right.under hk' (fun b hb hc => h.own.right.cut b hb (hin2 b hc)) o3 f3
 have f2 := foot_under (A := y.after.rows) f3
 have o1 := h.own.under hk' (fun b hb hc => h.own.cut b hb ((FootL_append _ _ _).2 (.inr (hin2 b hc)))) o2 f2
 have f1 := foot_under (A := y.before.rows) f2
 exact h.next hk' (fun b hb => (FootL_append _ _ _).2 (.inr ((FootL_append _ _ _).2 (.inr (hin2 b hb))))) o1 f1 ((Kept.refl (fun b => b = R) wy).setCell (p := ⟨R, 12, none⟩) (.inr rfl) _) (fun hb => hb.stored 12 _)
theorem own_app4 {e : TypeId} {w : World} {g n c : Nat} {bs : List Int} {x y z u : Int} (h : w.ownsRow 0 e 4 (.slice (some ⟨g, 0, none⟩) n c) n (vals .i64 bs ++ [.int .i64 x, .int .i64 y, .int .i64 z, .int .i64 u])) : OwnL w (FR.rows 4 ⟨e, some ⟨g, 0, none⟩, n, c, bs ++ [x, y, z, u]⟩) :=
 OwnF.out (by
  have e1 : vals .i64 bs ++ [.int .i64 x, .int .i64 y, .int .i64 z, .int .i64 u] = vals .i64 (bs ++ [x, y, z, u]) := by simp [vals]
  rw [e1] at h
  exact h)
theorem own_app2 {e : TypeId} {w : World} {g n c : Nat} {bs : List Int} {x y : Int} (h : w.ownsRow 0 e 2 (.slice (some ⟨g, 0, none⟩) n c) n (vals .i64 bs ++ [.int .i64 x, .int .i64 y])) : OwnL w (FR.rows 2 ⟨e, some ⟨g, 0, none⟩, n, c, bs ++ [x, y]⟩) :=
 OwnF.out (by
  have e1 : vals .i64 bs ++ [.int .i64 x, .int .i64 y] = vals .i64 (bs ++ [x, y]) := by simp [vals]
  rw [e1] at h
  exact h)
theorem DcI.owntxns (h : DcI w wx v bs rs lim P R Z y) : wx.ownsRow 0 y.txns.e 4 y.txns.v y.txns.n (vals .i64 y.txns.bs) := h.own.right.right.left.1 _ (List.mem_singleton.2 rfl)
theorem DcI.owndirty (h : DcI w wx v bs rs lim P R Z y) : wx.ownsRow 0 y.dirty.e 2 y.dirty.v y.dirty.n (vals .i64 y.dirty.bs) := h.own.right.right.right.left.1 _ (List.mem_singleton.2 rfl)
theorem fr_at {e : TypeId} {g n c : Nat} {xs : List Int} {b : Nat} (h : (FR.v ⟨e, some ⟨g, 0, none⟩, n, c, xs⟩).ownBlock = some b) : g = b := by simpa [FR.v, Value.ownBlock] using h
theorem DcI.appT {o : Obj} {w9 : World} {g c : Nat} {x1 x2 x3 x4 : Int} (h : DcI w wx v bs rs lim P R Z y) (ha : Same wx (wx.alloc o)) (ho : w9.ownsRow 0 y.txns.e 4 (.slice (some ⟨g, 0, none⟩) (y.txns.n + 1) c) (y.txns.n + 1) (vals .i64 y.txns.bs ++ [.int .i64 x1, .int .i64 x2, .int .i64 x3, .int .i64 x4])) (hg : (wx.alloc o).grownBy w9 y.txns.v.ownBlock) (hat : y.txns.v.ownBlock = some g ∨ g = wx.heap.size + 1) (hs : (wx.alloc o).heap.size = wx.heap.size + 1) : DcI w (w9.setCell ⟨R, 11, none⟩ (.slice (some ⟨g, 0, none⟩) (y.txns.n + 1) c)) v bs rs lim P R Z { y with txns := ⟨y.txns.e, some ⟨g, 0, none⟩, y.txns.n + 1, c, y.txns.bs ++ [x1, x2, x3, x4]⟩ } :=
 (h.same ha).growT (Kept.of_grown hg (fun k e => e)) ⟨y.txns.e, some ⟨g, 0, none⟩, y.txns.n + 1, c, y.txns.bs ++ [x1, x2, x3, x4]⟩ (own_app4 ho) (fun b hb => by have e := fr_at hb; subst e; exact hat.imp id (fun e => by omega))
theorem DcI.appD {o : Obj} {w9 : World} {g c : Nat} {x1 x2 : Int} (h : DcI w wx v bs rs lim P R Z y) (ha : Same wx (wx.alloc o)) (ho : w9.ownsRow 0 y.dirty.e 2 (.slice (some ⟨g, 0, none⟩) (y.dirty.n + 1) c) (y.dirty.n + 1) (vals .i64 y.dirty.bs ++ [.int .i64 x1, .int .i64 x2])) (hg : (wx.alloc o).grownBy w9 y.dirty.v.ownBlock) (hat : y.dirty.v.ownBlock = some g ∨ g = wx.heap.size + 1) (hs : (wx.alloc o).heap.size = wx.heap.size + 1) : DcI w (w9.setCell ⟨R, 12, none⟩ (.slice (some ⟨g, 0, none⟩) (y.dirty.n + 1) c)) v bs rs lim P R Z { y with dirty := ⟨y.dirty.e, some ⟨g, 0, none⟩, y.dirty.n + 1, c, y.dirty.bs ++ [x1, x2]⟩ } :=
 (h.same ha).growD (Kept.of_grown hg (fun k e => e)) ⟨y.dirty.e, some ⟨g, 0, none⟩, y.dirty.n + 1, c, y.dirty.bs ++ [x1, x2]⟩ (own_app2 ho) (fun b hb => by have e := fr_at hb; subst e; exact hat.imp id (fun e => by omega))
theorem DcI.outtxns (h : DcI w wx v bs rs lim P R Z y) : ¬ y.txns.v.ownBlock = some R := fun e => (h.foot R ((FootL_append _ _ _).2 (.inr ((FootL_append _ _ _).2 (.inr ((FootL_append _ _ _).2 (.inl (foot_fr.2 e)))))))).2.2.1 rfl
theorem DcI.outdirty (h : DcI w wx v bs rs lim P R Z y) : ¬ y.dirty.v.ownBlock = some R := fun e => (h.foot R ((FootL_append _ _ _).2 (.inr ((FootL_append _ _ _).2 (.inr ((FootL_append _ _ _).2 (.inr ((FootL_append _ _ _).2 (.inl (foot_fr.2 e)))))))))).2.2.1 rfl
theorem DcI.rest (h : DcI w wx v bs rs lim P R Z y) (h1 : rs = rs') (h2 : lim = lim') (h3 : y = y') : DcI w wx v bs rs' lim' P R Z y' := by subst h1 h2 h3; exact h
theorem padB_isB {xs : List Int} (n : Nat) (h : IsB xs) : IsB (padB xs n) := fun x hx => by
 unfold padB at hx
 rcases List.mem_append.1 hx with h1 | h1
 ·exact h x (List.mem_of_mem_take h1)
 ·rw [List.eq_of_mem_replicate h1]; omega
theorem IsB.drop {xs : List Int} (n : Nat) (h : IsB xs) : IsB (xs.drop n) := fun x hx => h x (List.mem_of_mem_drop hx)
theorem IsB.nil : IsB [] := fun x hx => by simp at hx
theorem rdSlot_isB {xs : List Int} (h : IsB xs) : IsB (rdSlot nS padB xs).1.2 ∧ IsB (rdSlot nS padB xs).2 ∧ (rdSlot nS padB xs).1.2.length ≤ 65535 := by
 unfold rdSlot
 split
 ·have h2 := nS_two (h.drop 1)
  refine ⟨padB_isB _ (h.drop 3), (h.drop 3).drop _, ?_⟩
  simp only [padB, List.length_append, List.length_take, List.length_replicate]
  omega
 ·exact ⟨IsB.nil, h.drop 1, by simp⟩
theorem nS_one {xs : List Int} (h : IsB xs) : 0 ≤ nS xs 1 ∧ nS xs 1 ≤ 255 := by
 have hl : (padB xs 1).length = 1 := by simp [padB]; omega
 have hb := padB_isB 1 h
 unfold nS
 match hm : padB xs 1, hl with
 | [a], _ =>
  have ha := hb a (by rw [hm]; simp)
  have hn : num [a] = a := by simp [num]
  unfold getN
  rw [hn, if_neg (by simp only [List.length_cons, List.length_nil]; omega)]
  omega
def sizeD (d : RecD) : Nat := d.2.2.2.2.2.1.2.length + d.2.2.2.2.2.2.1.2.length + d.2.2.2.2.2.2.2.2.2.1.length + d.2.2.2.2.2.2.2.2.2.2.1.length + d.2.2.2.2.2.2.2.2.2.2.2.length
theorem txL_len (rs : List Int) (n : Nat) : (txL nS rs n).length = 4 * n := flatMap_len (m := 4) (fun i => rfl) n
theorem dyL_len (rs : List Int) (n : Nat) : (dyL nS rs n).length = 2 * n := flatMap_len (m := 2) (fun i => rfl) n
theorem rdBody_good {k t p : Int} {r : List Int} (h : IsB r) : IsB (rdBody nS padB k t p r).2.2.2.2.2.1.2 ∧ IsB (rdBody nS padB k t p r).2.2.2.2.2.2.1.2 ∧ IsB (rdBody nS padB k t p r).2.2.2.2.2.2.2.2.2.2.2 ∧ sizeD (rdBody nS padB k t p r) ≤ 140000 := by
 have s1 := rdSlot_isB (h.drop 4)
 have s2 := rdSlot_isB s1.2.1
 unfold rdBody sizeD
 split
 ·exact ⟨s1.1, s2.1, IsB.nil, by have := s1.2.2; have := s2.2.2; simp only [List.length_nil]; omega⟩
 split
 ·exact ⟨IsB.nil, s1.1, IsB.nil, by have := s1.2.2; simp only [List.length_nil]; omega⟩
 split
 ·refine ⟨IsB.nil, IsB.nil, IsB.nil, ?_⟩
  have h1 := nS_one (h.drop 4)
  have h2 := nS_one ((h.drop 5).drop (21 * (nS (r.drop 4) 1).toNat))
  simp only [List.length_nil, txL_len, dyL_len]
  omega
 split
 ·refine ⟨IsB.nil, IsB.nil, padB_isB _ (h.drop 2), ?_⟩
  simp only [padB, List.length_nil, List.length_append, List.length_take, List.length_replicate]
  omega
 ·exact ⟨IsB.nil, IsB.nil, IsB.nil, by simp only [List.length_nil]; omega⟩
theorem recS_1 (txn : Int) (prev : Int) (page : Int) (slot : Int) (beforeu : Bool) (beforea : Option Addr) (beforen beforec : Nat) (afteru : Bool) (aftera : Option Addr) (aftern afterc : Nat) (uN : Int) (nT : Int) (txnsa : Option Addr) (txnsn txnsc : Nat) (dirtya : Option Addr) (dirtyn dirtyc : Nat) (imagea : Option Addr) (imagen imagec : Nat) (w : World) (EX b1 b2 b3 b4 b5 b6 : Bool) (PF : Int) (hkind : ∀ wx, Same w wx → Calls Tryz.prog 38 #[.int .i64 1, .int .i64 1, .int .i64 8] wx fun e w' => e = .returned (.bool true) ∧ Same wx w') (hex : ∀ wx, Same w wx → Calls Tryz.prog 39 #[.agg #[.int .i64 1, .int .i64 txn, .int .i64 prev, .int .i64 page, .int .i64 slot, .bool beforeu, .slice beforea beforen beforec, .bool afteru, .slice aftera aftern afterc, .int .i64 uN, .int .i64 nT, .slice txnsa txnsn txnsc, .slice dirtya dirtyn dirtyc, .slice imagea imagen imagec]] wx fun e w' => e = .returned (.bool EX) ∧ Same wx w') (htxn : ∀ wx, Same w wx → Calls Tryz.prog 38 #[.int .i64 txn, .int .i64 1, .int .i64 2147483647] wx fun e w' => e = .returned (.bool b1) ∧ Same wx w') (hprev : ∀ wx, Same w wx → Calls Tryz.prog 38 #[.int .i64 prev, .int .i64 0, .int .i64 1099511627776] wx fun e w' => e = .returned (.bool b2) ∧ Same wx w') (hpage : ∀ wx, Same w wx → Calls Tryz.prog 38 #[.int .i64 page, .int .i64 0, .int .i64 15] wx fun e w' => e = .returned (.bool b3) ∧ Same wx w') (hslot : ∀ wx, Same w wx → Calls Tryz.prog 38 #[.int .i64 slot, .int .i64 0, .int .i64 31] wx fun e w' => e = .returned (.bool b4) ∧ Same wx w') (hbef : ∀ wx, Same w wx → Calls Tryz.prog 40 #[.agg #[.bool beforeu, .slice beforea beforen beforec]] wx fun e w' => e = .returned (.bool b5) ∧ Same wx w') (haft : ∀ wx, Same w wx → Calls Tryz.prog 40 #[.agg #[.bool afteru, .slice aftera aftern afterc]] wx fun e w' => e = .returned (.bool b6) ∧ Same wx w') :
  Calls Tryz.prog 21 #[.agg #[.int .i64 1, .int .i64 txn, .int .i64 prev, .int .i64 page, .int .i64 slot, .bool beforeu, .slice beforea beforen beforec, .bool afteru, .slice aftera aftern afterc, .int .i64 uN, .int .i64 nT, .slice txnsa txnsn txnsc, .slice dirtya dirtyn dirtyc, .slice imagea imagen imagec]] w fun e w' => e = .returned (.int .i64 (if EX = true then 2 else (if b1 = false then 3 else (if b2 = false then 4 else (if b3 = false then 5 else (if b4 = false then 5 else (if b5 = false then 6 else (if b6 = false then 6 else (if (beforeu || afteru) = false then 6 else (0)))))))))) ∧ Same w w' := by
 obtain ⟨HK0, HB0⟩ := new1 w [.int .i64 1, .int .i64 txn, .int .i64 prev, .int .i64 page, .int .i64 slot, .bool beforeu, .slice beforea beforen beforec, .bool afteru, .slice aftera aftern afterc, .int .i64 uN, .int .i64 nT, .slice txnsa txnsn txnsc, .slice dirtya dirtyn dirtyc, .slice imagea imagen imagec] 28
 go_enter Tryz.func21, Tryz.ntmps21
 go_wp2_with fail
 refine (hkind _ HK0.out).mono ?_
 rintro e w1 ⟨rfl, hk⟩
 have HK1 := hid (HK0.out.trans hk)
 have HB1 := hid (HB0.out.same hk)
 clear hk HK0 HB0
 obtain ⟨d0, d1, d2, d3, d4, d5, d6, d7, d8, d9, d10, d11, d12, d13⟩ := HB1.out.all14
 go_wp2_with fail
 refine (hex _ HK1.out).mono ?_
 rintro e w2 ⟨rfl, hk⟩
 clear d0 d1 d2 d3 d4 d5 d6 d7 d8 d9 d10 d11 d12 d13
 have HK2 := hid (HK1.out.trans hk)
 have HB2 := hid (HB1.out.same hk)
 clear hk HK1 HB1
 obtain ⟨d0, d1, d2, d3, d4, d5, d6, d7, d8, d9, d10, d11, d12, d13⟩ := HB2.out.all14
 cases EX with
 | true =>
  go_wp2
  go_ret
  exact ⟨by first | rfl | simp, HK2.out⟩
 | false =>
  go_wp2_with fail
  refine (htxn _ HK2.out).mono ?_
  rintro e w3 ⟨rfl, hk⟩
  clear d0 d1 d2 d3 d4 d5 d6 d7 d8 d9 d10 d11 d12 d13
  have HK3 := hid (HK2.out.trans hk)
  have HB3 := hid (HB2.out.same hk)
  clear hk HK2 HB2
  obtain ⟨d0, d1, d2, d3, d4, d5, d6, d7, d8, d9, d10, d11, d12, d13⟩ := HB3.out.all14
  cases b1 with
  | false =>
   go_wp2
   go_ret
   exact ⟨by first | rfl | simp, HK3.out⟩
  | true =>
   go_wp2_with fail
   refine (hprev _ HK3.out).mono ?_
   rintro e w4 ⟨rfl, hk⟩
   clear d0 d1 d2 d3 d4 d5 d6 d7 d8 d9 d10 d11 d12 d13
   have HK4 := hid (HK3.out.trans hk)
   have HB4 := hid (HB3.out.same hk)
   clear hk HK3 HB3
   obtain ⟨d0, d1, d2, d3, d4, d5, d6, d7, d8, d9, d10, d11, d12, d13⟩ := HB4.out.all14
   cases b2 with
   | false =>
    go_wp2
    go_ret
    exact ⟨by first | rfl | simp, HK4.out⟩
   | true =>
    go_wp2_with fail
    refine (hpage _ HK4.out).mono ?_
    rintro e w5 ⟨rfl, hk⟩
    clear d0 d1 d2 d3 d4 d5 d6 d7 d8 d9 d10 d11 d12 d13
    have HK5 := hid (HK4.out.trans hk)
    have HB5 := hid (HB4.out.same hk)
    clear hk HK4 HB4
    obtain ⟨d0, d1, d2, d3, d4, d5, d6, d7, d8, d9, d10, d11, d12, d13⟩ := HB5.out.all14
    cases b3 with
    | false =>
     go_wp2
     go_ret
     exact ⟨by first | rfl | simp, HK5.out⟩
    | true =>
     go_wp2_with fail
     refine (hslot _ HK5.out).mono ?_
     rintro e w6 ⟨rfl, hk⟩
     clear d0 d1 d2 d3 d4 d5 d6 d7 d8 d9 d10 d11 d12 d13
     have HK6 := hid (HK5.out.trans hk)
     have HB6 := hid (HB5.out.same hk)
     clear hk HK5 HB5
     obtain ⟨d0, d1, d2, d3, d4, d5, d6, d7, d8, d9, d10, d11, d12, d13⟩ := HB6.out.all14
     cases b4 with
     | false =>
      go_wp2
      go_ret
      exact ⟨by first | rfl | simp, HK6.out⟩
     | true =>
      go_wp2_with fail
      refine (hbef _ HK6.out).mono ?_
      rintro e w7 ⟨rfl, hk⟩
      clear d0 d1 d2 d3 d4 d5 d6 d7 d8 d9 d10 d11 d12 d13
      have HK7 := hid (HK6.out.trans hk)
      have HB7 := hid (HB6.out.same hk)
      clear hk HK6 HB6
      obtain ⟨d0, d1, d2, d3, d4, d5, d6, d7, d8, d9, d10, d11, d12, d13⟩ := HB7.out.all14
      cases b5 with
      | false =>
       go_wp2
       go_ret
       exact ⟨by first | rfl | simp, HK7.out⟩
      | true =>
       go_wp2_with fail
       refine (haft _ HK7.out).mono ?_
       rintro e w8 ⟨rfl, hk⟩
       clear d0 d1 d2 d3 d4 d5 d6 d7 d8 d9 d10 d11 d12 d13
       have HK8 := hid (HK7.out.trans hk)
       have HB8 := hid (HB7.out.same hk)
       clear hk HK7 HB7
       obtain ⟨d0, d1, d2, d3, d4, d5, d6, d7, d8, d9, d10, d11, d12, d13⟩ := HB8.out.all14
       cases b6 with
       | false =>
        go_wp2
        go_ret
        exact ⟨by first | rfl | simp, HK8.out⟩
       | true =>
        cases beforeu with
        | false =>
         cases afteru with
         | false =>
          go_wp2
          go_ret
          exact ⟨rfl, HK8.out⟩
         | true =>
          go_wp2
          go_ret
          exact ⟨rfl, HK8.out⟩
        | true =>
         go_wp2
         go_ret
         exact ⟨rfl, HK8.out⟩
theorem recS_2 (txn : Int) (prev : Int) (page : Int) (slot : Int) (beforeu : Bool) (beforea : Option Addr) (beforen beforec : Nat) (afteru : Bool) (aftera : Option Addr) (aftern afterc : Nat) (uN : Int) (nT : Int) (txnsa : Option Addr) (txnsn txnsc : Nat) (dirtya : Option Addr) (dirtyn dirtyc : Nat) (imagea : Option Addr) (imagen imagec : Nat) (w : World) (EX b1 b2 b3 b4 b5 b6 b7 : Bool) (PF : Int) (hkind : ∀ wx, Same w wx → Calls Tryz.prog 38 #[.int .i64 2, .int .i64 1, .int .i64 8] wx fun e w' => e = .returned (.bool true) ∧ Same wx w') (hex : ∀ wx, Same w wx → Calls Tryz.prog 39 #[.agg #[.int .i64 2, .int .i64 txn, .int .i64 prev, .int .i64 page, .int .i64 slot, .bool beforeu, .slice beforea beforen beforec, .bool afteru, .slice aftera aftern afterc, .int .i64 uN, .int .i64 nT, .slice txnsa txnsn txnsc, .slice dirtya dirtyn dirtyc, .slice imagea imagen imagec]] wx fun e w' => e = .returned (.bool EX) ∧ Same wx w') (htxn : ∀ wx, Same w wx → Calls Tryz.prog 38 #[.int .i64 txn, .int .i64 1, .int .i64 2147483647] wx fun e w' => e = .returned (.bool b1) ∧ Same wx w') (hprev : ∀ wx, Same w wx → Calls Tryz.prog 38 #[.int .i64 prev, .int .i64 0, .int .i64 1099511627776] wx fun e w' => e = .returned (.bool b2) ∧ Same wx w') (hpage : ∀ wx, Same w wx → Calls Tryz.prog 38 #[.int .i64 page, .int .i64 0, .int .i64 15] wx fun e w' => e = .returned (.bool b3) ∧ Same wx w') (hslot : ∀ wx, Same w wx → Calls Tryz.prog 38 #[.int .i64 slot, .int .i64 0, .int .i64 31] wx fun e w' => e = .returned (.bool b4) ∧ Same wx w') (hbef : ∀ wx, Same w wx → Calls Tryz.prog 40 #[.agg #[.bool beforeu, .slice beforea beforen beforec]] wx fun e w' => e = .returned (.bool b5) ∧ Same wx w') (haft : ∀ wx, Same w wx → Calls Tryz.prog 40 #[.agg #[.bool afteru, .slice aftera aftern afterc]] wx fun e w' => e = .returned (.bool b6) ∧ Same wx w') (hund : ∀ wx, Same w wx → Calls Tryz.prog 38 #[.int .i64 uN, .int .i64 0, .int .i64 1099511627776] wx fun e w' => e = .returned (.bool b7) ∧ Same wx w') :
  Calls Tryz.prog 21 #[.agg #[.int .i64 2, .int .i64 txn, .int .i64 prev, .int .i64 page, .int .i64 slot, .bool beforeu, .slice beforea beforen beforec, .bool afteru, .slice aftera aftern afterc, .int .i64 uN, .int .i64 nT, .slice txnsa txnsn txnsc, .slice dirtya dirtyn dirtyc, .slice imagea imagen imagec]] w fun e w' => e = .returned (.int .i64 (if EX = true then 2 else (if b1 = false then 3 else (if b2 = false then 4 else (if b3 = false then 5 else (if b4 = false then 5 else (if b5 = false then 6 else (if b6 = false then 6 else (if b7 = false then 7 else (0)))))))))) ∧ Same w w' := by
 obtain ⟨HK0, HB0⟩ := new1 w [.int .i64 2, .int .i64 txn, .int .i64 prev, .int .i64 page, .int .i64 slot, .bool beforeu, .slice beforea beforen beforec, .bool afteru, .slice aftera aftern afterc, .int .i64 uN, .int .i64 nT, .slice txnsa txnsn txnsc, .slice dirtya dirtyn dirtyc, .slice imagea imagen imagec] 28
 go_enter Tryz.func21, Tryz.ntmps21
 go_wp2_with fail
 refine (hkind _ HK0.out).mono ?_
 rintro e w1 ⟨rfl, hk⟩
 have HK1 := hid (HK0.out.trans hk)
 have HB1 := hid (HB0.out.same hk)
 clear hk HK0 HB0
 obtain ⟨d0, d1, d2, d3, d4, d5, d6, d7, d8, d9, d10, d11, d12, d13⟩ := HB1.out.all14
 go_wp2_with fail
 refine (hex _ HK1.out).mono ?_
 rintro e w2 ⟨rfl, hk⟩
 clear d0 d1 d2 d3 d4 d5 d6 d7 d8 d9 d10 d11 d12 d13
 have HK2 := hid (HK1.out.trans hk)
 have HB2 := hid (HB1.out.same hk)
 clear hk HK1 HB1
 obtain ⟨d0, d1, d2, d3, d4, d5, d6, d7, d8, d9, d10, d11, d12, d13⟩ := HB2.out.all14
 cases EX with
 | true =>
  go_wp2
  go_ret
  exact ⟨by first | rfl | simp, HK2.out⟩
 | false =>
  go_wp2_with fail
  refine (htxn _ HK2.out).mono ?_
  rintro e w3 ⟨rfl, hk⟩
  clear d0 d1 d2 d3 d4 d5 d6 d7 d8 d9 d10 d11 d12 d13
  have HK3 := hid (HK2.out.trans hk)
  have HB3 := hid (HB2.out.same hk)
  clear hk HK2 HB2
  obtain ⟨d0, d1, d2, d3, d4, d5, d6, d7, d8, d9, d10, d11, d12, d13⟩ := HB3.out.all14
  cases b1 with
  | false =>
   go_wp2
   go_ret
   exact ⟨by first | rfl | simp, HK3.out⟩
  | true =>
   go_wp2_with fail
   refine (hprev _ HK3.out).mono ?_
   rintro e w4 ⟨rfl, hk⟩
   clear d0 d1 d2 d3 d4 d5 d6 d7 d8 d9 d10 d11 d12 d13
   have HK4 := hid (HK3.out.trans hk)
   have HB4 := hid (HB3.out.same hk)
   clear hk HK3 HB3
   obtain ⟨d0, d1, d2, d3, d4, d5, d6, d7, d8, d9, d10, d11, d12, d13⟩ := HB4.out.all14
   cases b2 with
   | false =>
    go_wp2
    go_ret
    exact ⟨by first | rfl | simp, HK4.out⟩
   | true =>
    go_wp2_with fail
    refine (hpage _ HK4.out).mono ?_
    rintro e w5 ⟨rfl, hk⟩
    clear d0 d1 d2 d3 d4 d5 d6 d7 d8 d9 d10 d11 d12 d13
    have HK5 := hid (HK4.out.trans hk)
    have HB5 := hid (HB4.out.same hk)
    clear hk HK4 HB4
    obtain ⟨d0, d1, d2, d3, d4, d5, d6, d7, d8, d9, d10, d11, d12, d13⟩ := HB5.out.all14
    cases b3 with
    | false =>
     go_wp2
     go_ret
     exact ⟨by first | rfl | simp, HK5.out⟩
    | true =>
     go_wp2_with fail
     refine (hslot _ HK5.out).mono ?_
     rintro e w6 ⟨rfl, hk⟩
     clear d0 d1 d2 d3 d4 d5 d6 d7 d8 d9 d10 d11 d12 d13
     have HK6 := hid (HK5.out.trans hk)
     have HB6 := hid (HB5.out.same hk)
     clear hk HK5 HB5
     obtain ⟨d0, d1, d2, d3, d4, d5, d6, d7, d8, d9, d10, d11, d12, d13⟩ := HB6.out.all14
     cases b4 with
     | false =>
      go_wp2
      go_ret
      exact ⟨by first | rfl | simp, HK6.out⟩
     | true =>
      go_wp2_with fail
      refine (hbef _ HK6.out).mono ?_
      rintro e w7 ⟨rfl, hk⟩
      clear d0 d1 d2 d3 d4 d5 d6 d7 d8 d9 d10 d11 d12 d13
      have HK7 := hid (HK6.out.trans hk)
      have HB7 := hid (HB6.out.same hk)
      clear hk HK6 HB6
      obtain ⟨d0, d1, d2, d3, d4, d5, d6, d7, d8, d9, d10, d11, d12, d13⟩ := HB7.out.all14
      cases b5 with
      | false =>
       go_wp2
       go_ret
       exact ⟨by first | rfl | simp, HK7.out⟩
      | true =>
       go_wp2_with fail
       refine (haft _ HK7.out).mono ?_
       rintro e w8 ⟨rfl, hk⟩
       clear d0 d1 d2 d3 d4 d5 d6 d7 d8 d9 d10 d11 d12 d13
       have HK8 := hid (HK7.out.trans hk)
       have HB8 := hid (HB7.out.same hk)
       clear hk HK7 HB7
       obtain ⟨d0, d1, d2, d3, d4, d5, d6, d7, d8, d9, d10, d11, d12, d13⟩ := HB8.out.all14
       cases b6 with
       | false =>
        go_wp2
        go_ret
        exact ⟨by first | rfl | simp, HK8.out⟩
       | true =>
        go_wp2_with fail
        refine (hund _ HK8.out).mono ?_
        rintro e w9 ⟨rfl, hk⟩
        clear d0 d1 d2 d3 d4 d5 d6 d7 d8 d9 d10 d11 d12 d13
        have HK9 := hid (HK8.out.trans hk)
        have HB9 := hid (HB8.out.same hk)
        clear hk HK8 HB8
        obtain ⟨d0, d1, d2, d3, d4, d5, d6, d7, d8, d9, d10, d11, d12, d13⟩ := HB9.out.all14
        cases b7 with
        | false =>
         go_wp2
         go_ret
         exact ⟨by first | rfl | simp, HK9.out⟩
        | true =>
         go_wp2
         go_ret
         exact ⟨by first | rfl | simp, HK9.out⟩
theorem recS_3 (txn : Int) (prev : Int) (page : Int) (slot : Int) (beforeu : Bool) (beforea : Option Addr) (beforen beforec : Nat) (afteru : Bool) (aftera : Option Addr) (aftern afterc : Nat) (uN : Int) (nT : Int) (txnsa : Option Addr) (txnsn txnsc : Nat) (dirtya : Option Addr) (dirtyn dirtyc : Nat) (imagea : Option Addr) (imagen imagec : Nat) (w : World) (EX b1 b2 b5 b6 : Bool) (PF : Int) (hkind : ∀ wx, Same w wx → Calls Tryz.prog 38 #[.int .i64 3, .int .i64 1, .int .i64 8] wx fun e w' => e = .returned (.bool true) ∧ Same wx w') (hex : ∀ wx, Same w wx → Calls Tryz.prog 39 #[.agg #[.int .i64 3, .int .i64 txn, .int .i64 prev, .int .i64 page, .int .i64 slot, .bool beforeu, .slice beforea beforen beforec, .bool afteru, .slice aftera aftern afterc, .int .i64 uN, .int .i64 nT, .slice txnsa txnsn txnsc, .slice dirtya dirtyn dirtyc, .slice imagea imagen imagec]] wx fun e w' => e = .returned (.bool EX) ∧ Same wx w') (htxn : ∀ wx, Same w wx → Calls Tryz.prog 38 #[.int .i64 txn, .int .i64 1, .int .i64 2147483647] wx fun e w' => e = .returned (.bool b1) ∧ Same wx w') (hprev : ∀ wx, Same w wx → Calls Tryz.prog 38 #[.int .i64 prev, .int .i64 0, .int .i64 1099511627776] wx fun e w' => e = .returned (.bool b2) ∧ Same wx w') (hbef : ∀ wx, Same w wx → Calls Tryz.prog 40 #[.agg #[.bool beforeu, .slice beforea beforen beforec]] wx fun e w' => e = .returned (.bool b5) ∧ Same wx w') (haft : ∀ wx, Same w wx → Calls Tryz.prog 40 #[.agg #[.bool afteru, .slice aftera aftern afterc]] wx fun e w' => e = .returned (.bool b6) ∧ Same wx w') :
  Calls Tryz.prog 21 #[.agg #[.int .i64 3, .int .i64 txn, .int .i64 prev, .int .i64 page, .int .i64 slot, .bool beforeu, .slice beforea beforen beforec, .bool afteru, .slice aftera aftern afterc, .int .i64 uN, .int .i64 nT, .slice txnsa txnsn txnsc, .slice dirtya dirtyn dirtyc, .slice imagea imagen imagec]] w fun e w' => e = .returned (.int .i64 (if EX = true then 2 else (if b1 = false then 3 else (if b2 = false then 4 else (if b5 = false then 6 else (if b6 = false then 6 else (0))))))) ∧ Same w w' := by
 obtain ⟨HK0, HB0⟩ := new1 w [.int .i64 3, .int .i64 txn, .int .i64 prev, .int .i64 page, .int .i64 slot, .bool beforeu, .slice beforea beforen beforec, .bool afteru, .slice aftera aftern afterc, .int .i64 uN, .int .i64 nT, .slice txnsa txnsn txnsc, .slice dirtya dirtyn dirtyc, .slice imagea imagen imagec] 28
 go_enter Tryz.func21, Tryz.ntmps21
 go_wp2_with fail
 refine (hkind _ HK0.out).mono ?_
 rintro e w1 ⟨rfl, hk⟩
 have HK1 := hid (HK0.out.trans hk)
 have HB1 := hid (HB0.out.same hk)
 clear hk HK0 HB0
 obtain ⟨d0, d1, d2, d3, d4, d5, d6, d7, d8, d9, d10, d11, d12, d13⟩ := HB1.out.all14
 go_wp2_with fail
 refine (hex _ HK1.out).mono ?_
 rintro e w2 ⟨rfl, hk⟩
 clear d0 d1 d2 d3 d4 d5 d6 d7 d8 d9 d10 d11 d12 d13
 have HK2 := hid (HK1.out.trans hk)
 have HB2 := hid (HB1.out.same hk)
 clear hk HK1 HB1
 obtain ⟨d0, d1, d2, d3, d4, d5, d6, d7, d8, d9, d10, d11, d12, d13⟩ := HB2.out.all14
 cases EX with
 | true =>
  go_wp2
  go_ret
  exact ⟨by first | rfl | simp, HK2.out⟩
 | false =>
  go_wp2_with fail
  refine (htxn _ HK2.out).mono ?_
  rintro e w3 ⟨rfl, hk⟩
  clear d0 d1 d2 d3 d4 d5 d6 d7 d8 d9 d10 d11 d12 d13
  have HK3 := hid (HK2.out.trans hk)
  have HB3 := hid (HB2.out.same hk)
  clear hk HK2 HB2
  obtain ⟨d0, d1, d2, d3, d4, d5, d6, d7, d8, d9, d10, d11, d12, d13⟩ := HB3.out.all14
  cases b1 with
  | false =>
   go_wp2
   go_ret
   exact ⟨by first | rfl | simp, HK3.out⟩
  | true =>
   go_wp2_with fail
   refine (hprev _ HK3.out).mono ?_
   rintro e w4 ⟨rfl, hk⟩
   clear d0 d1 d2 d3 d4 d5 d6 d7 d8 d9 d10 d11 d12 d13
   have HK4 := hid (HK3.out.trans hk)
   have HB4 := hid (HB3.out.same hk)
   clear hk HK3 HB3
   obtain ⟨d0, d1, d2, d3, d4, d5, d6, d7, d8, d9, d10, d11, d12, d13⟩ := HB4.out.all14
   cases b2 with
   | false =>
    go_wp2
    go_ret
    exact ⟨by first | rfl | simp, HK4.out⟩
   | true =>
    go_wp2_with fail
    refine (hbef _ HK4.out).mono ?_
    rintro e w5 ⟨rfl, hk⟩
    clear d0 d1 d2 d3 d4 d5 d6 d7 d8 d9 d10 d11 d12 d13
    have HK5 := hid (HK4.out.trans hk)
    have HB5 := hid (HB4.out.same hk)
    clear hk HK4 HB4
    obtain ⟨d0, d1, d2, d3, d4, d5, d6, d7, d8, d9, d10, d11, d12, d13⟩ := HB5.out.all14
    cases b5 with
    | false =>
     go_wp2
     go_ret
     exact ⟨by first | rfl | simp, HK5.out⟩
    | true =>
     go_wp2_with fail
     refine (haft _ HK5.out).mono ?_
     rintro e w6 ⟨rfl, hk⟩
     clear d0 d1 d2 d3 d4 d5 d6 d7 d8 d9 d10 d11 d12 d13
     have HK6 := hid (HK5.out.trans hk)
     have HB6 := hid (HB5.out.same hk)
     clear hk HK5 HB5
     obtain ⟨d0, d1, d2, d3, d4, d5, d6, d7, d8, d9, d10, d11, d12, d13⟩ := HB6.out.all14
     cases b6 with
     | false =>
      go_wp2
      go_ret
      exact ⟨by first | rfl | simp, HK6.out⟩
     | true =>
      go_wp2
      go_ret
      exact ⟨by first | rfl | simp, HK6.out⟩
theorem recS_4 (txn : Int) (prev : Int) (page : Int) (slot : Int) (beforeu : Bool) (beforea : Option Addr) (beforen beforec : Nat) (afteru : Bool) (aftera : Option Addr) (aftern afterc : Nat) (uN : Int) (nT : Int) (txnsa : Option Addr) (txnsn txnsc : Nat) (dirtya : Option Addr) (dirtyn dirtyc : Nat) (imagea : Option Addr) (imagen imagec : Nat) (w : World) (EX b1 b2 b5 b6 : Bool) (PF : Int) (hkind : ∀ wx, Same w wx → Calls Tryz.prog 38 #[.int .i64 4, .int .i64 1, .int .i64 8] wx fun e w' => e = .returned (.bool true) ∧ Same wx w') (hex : ∀ wx, Same w wx → Calls Tryz.prog 39 #[.agg #[.int .i64 4, .int .i64 txn, .int .i64 prev, .int .i64 page, .int .i64 slot, .bool beforeu, .slice beforea beforen beforec, .bool afteru, .slice aftera aftern afterc, .int .i64 uN, .int .i64 nT, .slice txnsa txnsn txnsc, .slice dirtya dirtyn dirtyc, .slice imagea imagen imagec]] wx fun e w' => e = .returned (.bool EX) ∧ Same wx w') (htxn : ∀ wx, Same w wx → Calls Tryz.prog 38 #[.int .i64 txn, .int .i64 1, .int .i64 2147483647] wx fun e w' => e = .returned (.bool b1) ∧ Same wx w') (hprev : ∀ wx, Same w wx → Calls Tryz.prog 38 #[.int .i64 prev, .int .i64 0, .int .i64 1099511627776] wx fun e w' => e = .returned (.bool b2) ∧ Same wx w') (hbef : ∀ wx, Same w wx → Calls Tryz.prog 40 #[.agg #[.bool beforeu, .slice beforea beforen beforec]] wx fun e w' => e = .returned (.bool b5) ∧ Same wx w') (haft : ∀ wx, Same w wx → Calls Tryz.prog 40 #[.agg #[.bool afteru, .slice aftera aftern afterc]] wx fun e w' => e = .returned (.bool b6) ∧ Same wx w') :
  Calls Tryz.prog 21 #[.agg #[.int .i64 4, .int .i64 txn, .int .i64 prev, .int .i64 page, .int .i64 slot, .bool beforeu, .slice beforea beforen beforec, .bool afteru, .slice aftera aftern afterc, .int .i64 uN, .int .i64 nT, .slice txnsa txnsn txnsc, .slice dirtya dirtyn dirtyc, .slice imagea imagen imagec]] w fun e w' => e = .returned (.int .i64 (if EX = true then 2 else (if b1 = false then 3 else (if b2 = false then 4 else (if b5 = false then 6 else (if b6 = false then 6 else (0))))))) ∧ Same w w' := by
 obtain ⟨HK0, HB0⟩ := new1 w [.int .i64 4, .int .i64 txn, .int .i64 prev, .int .i64 page, .int .i64 slot, .bool beforeu, .slice beforea beforen beforec, .bool afteru, .slice aftera aftern afterc, .int .i64 uN, .int .i64 nT, .slice txnsa txnsn txnsc, .slice dirtya dirtyn dirtyc, .slice imagea imagen imagec] 28
 go_enter Tryz.func21, Tryz.ntmps21
 go_wp2_with fail
 refine (hkind _ HK0.out).mono ?_
 rintro e w1 ⟨rfl, hk⟩
 have HK1 := hid (HK0.out.trans hk)
 have HB1 := hid (HB0.out.same hk)
 clear hk HK0 HB0
 obtain ⟨d0, d1, d2, d3, d4, d5, d6, d7, d8, d9, d10, d11, d12, d13⟩ := HB1.out.all14
 go_wp2_with fail
 refine (hex _ HK1.out).mono ?_
 rintro e w2 ⟨rfl, hk⟩
 clear d0 d1 d2 d3 d4 d5 d6 d7 d8 d9 d10 d11 d12 d13
 have HK2 := hid (HK1.out.trans hk)
 have HB2 := hid (HB1.out.same hk)
 clear hk HK1 HB1
 obtain ⟨d0, d1, d2, d3, d4, d5, d6, d7, d8, d9, d10, d11, d12, d13⟩ := HB2.out.all14
 cases EX with
 | true =>
  go_wp2
  go_ret
  exact ⟨by first | rfl | simp, HK2.out⟩
 | false =>
  go_wp2_with fail
  refine (htxn _ HK2.out).mono ?_
  rintro e w3 ⟨rfl, hk⟩
  clear d0 d1 d2 d3 d4 d5 d6 d7 d8 d9 d10 d11 d12 d13
  have HK3 := hid (HK2.out.trans hk)
  have HB3 := hid (HB2.out.same hk)
  clear hk HK2 HB2
  obtain ⟨d0, d1, d2, d3, d4, d5, d6, d7, d8, d9, d10, d11, d12, d13⟩ := HB3.out.all14
  cases b1 with
  | false =>
   go_wp2
   go_ret
   exact ⟨by first | rfl | simp, HK3.out⟩
  | true =>
   go_wp2_with fail
   refine (hprev _ HK3.out).mono ?_
   rintro e w4 ⟨rfl, hk⟩
   clear d0 d1 d2 d3 d4 d5 d6 d7 d8 d9 d10 d11 d12 d13
   have HK4 := hid (HK3.out.trans hk)
   have HB4 := hid (HB3.out.same hk)
   clear hk HK3 HB3
   obtain ⟨d0, d1, d2, d3, d4, d5, d6, d7, d8, d9, d10, d11, d12, d13⟩ := HB4.out.all14
   cases b2 with
   | false =>
    go_wp2
    go_ret
    exact ⟨by first | rfl | simp, HK4.out⟩
   | true =>
    go_wp2_with fail
    refine (hbef _ HK4.out).mono ?_
    rintro e w5 ⟨rfl, hk⟩
    clear d0 d1 d2 d3 d4 d5 d6 d7 d8 d9 d10 d11 d12 d13
    have HK5 := hid (HK4.out.trans hk)
    have HB5 := hid (HB4.out.same hk)
    clear hk HK4 HB4
    obtain ⟨d0, d1, d2, d3, d4, d5, d6, d7, d8, d9, d10, d11, d12, d13⟩ := HB5.out.all14
    cases b5 with
    | false =>
     go_wp2
     go_ret
     exact ⟨by first | rfl | simp, HK5.out⟩
    | true =>
     go_wp2_with fail
     refine (haft _ HK5.out).mono ?_
     rintro e w6 ⟨rfl, hk⟩
     clear d0 d1 d2 d3 d4 d5 d6 d7 d8 d9 d10 d11 d12 d13
     have HK6 := hid (HK5.out.trans hk)
     have HB6 := hid (HB5.out.same hk)
     clear hk HK5 HB5
     obtain ⟨d0, d1, d2, d3, d4, d5, d6, d7, d8, d9, d10, d11, d12, d13⟩ := HB6.out.all14
     cases b6 with
     | false =>
      go_wp2
      go_ret
      exact ⟨by first | rfl | simp, HK6.out⟩
     | true =>
      go_wp2
      go_ret
      exact ⟨by first | rfl | simp, HK6.out⟩
theorem recS_5 (txn : Int) (prev : Int) (page : Int) (slot : Int) (beforeu : Bool) (beforea : Option Addr) (beforen beforec : Nat) (afteru : Bool) (aftera : Option Addr) (aftern afterc : Nat) (uN : Int) (nT : Int) (txnsa : Option Addr) (txnsn txnsc : Nat) (dirtya : Option Addr) (dirtyn dirtyc : Nat) (imagea : Option Addr) (imagen imagec : Nat) (w : World) (EX b1 b2 b5 b6 : Bool) (PF : Int) (hkind : ∀ wx, Same w wx → Calls Tryz.prog 38 #[.int .i64 5, .int .i64 1, .int .i64 8] wx fun e w' => e = .returned (.bool true) ∧ Same wx w') (hex : ∀ wx, Same w wx → Calls Tryz.prog 39 #[.agg #[.int .i64 5, .int .i64 txn, .int .i64 prev, .int .i64 page, .int .i64 slot, .bool beforeu, .slice beforea beforen beforec, .bool afteru, .slice aftera aftern afterc, .int .i64 uN, .int .i64 nT, .slice txnsa txnsn txnsc, .slice dirtya dirtyn dirtyc, .slice imagea imagen imagec]] wx fun e w' => e = .returned (.bool EX) ∧ Same wx w') (htxn : ∀ wx, Same w wx → Calls Tryz.prog 38 #[.int .i64 txn, .int .i64 1, .int .i64 2147483647] wx fun e w' => e = .returned (.bool b1) ∧ Same wx w') (hprev : ∀ wx, Same w wx → Calls Tryz.prog 38 #[.int .i64 prev, .int .i64 0, .int .i64 1099511627776] wx fun e w' => e = .returned (.bool b2) ∧ Same wx w') (hbef : ∀ wx, Same w wx → Calls Tryz.prog 40 #[.agg #[.bool beforeu, .slice beforea beforen beforec]] wx fun e w' => e = .returned (.bool b5) ∧ Same wx w') (haft : ∀ wx, Same w wx → Calls Tryz.prog 40 #[.agg #[.bool afteru, .slice aftera aftern afterc]] wx fun e w' => e = .returned (.bool b6) ∧ Same wx w') :
  Calls Tryz.prog 21 #[.agg #[.int .i64 5, .int .i64 txn, .int .i64 prev, .int .i64 page, .int .i64 slot, .bool beforeu, .slice beforea beforen beforec, .bool afteru, .slice aftera aftern afterc, .int .i64 uN, .int .i64 nT, .slice txnsa txnsn txnsc, .slice dirtya dirtyn dirtyc, .slice imagea imagen imagec]] w fun e w' => e = .returned (.int .i64 (if EX = true then 2 else (if b1 = false then 3 else (if b2 = false then 4 else (if b5 = false then 6 else (if b6 = false then 6 else (0))))))) ∧ Same w w' := by
 obtain ⟨HK0, HB0⟩ := new1 w [.int .i64 5, .int .i64 txn, .int .i64 prev, .int .i64 page, .int .i64 slot, .bool beforeu, .slice beforea beforen beforec, .bool afteru, .slice aftera aftern afterc, .int .i64 uN, .int .i64 nT, .slice txnsa txnsn txnsc, .slice dirtya dirtyn dirtyc, .slice imagea imagen imagec] 28
 go_enter Tryz.func21, Tryz.ntmps21
 go_wp2_with fail
 refine (hkind _ HK0.out).mono ?_
 rintro e w1 ⟨rfl, hk⟩
 have HK1 := hid (HK0.out.trans hk)
 have HB1 := hid (HB0.out.same hk)
 clear hk HK0 HB0
 obtain ⟨d0, d1, d2, d3, d4, d5, d6, d7, d8, d9, d10, d11, d12, d13⟩ := HB1.out.all14
 go_wp2_with fail
 refine (hex _ HK1.out).mono ?_
 rintro e w2 ⟨rfl, hk⟩
 clear d0 d1 d2 d3 d4 d5 d6 d7 d8 d9 d10 d11 d12 d13
 have HK2 := hid (HK1.out.trans hk)
 have HB2 := hid (HB1.out.same hk)
 clear hk HK1 HB1
 obtain ⟨d0, d1, d2, d3, d4, d5, d6, d7, d8, d9, d10, d11, d12, d13⟩ := HB2.out.all14
 cases EX with
 | true =>
  go_wp2
  go_ret
  exact ⟨by first | rfl | simp, HK2.out⟩
 | false =>
  go_wp2_with fail
  refine (htxn _ HK2.out).mono ?_
  rintro e w3 ⟨rfl, hk⟩
  clear d0 d1 d2 d3 d4 d5 d6 d7 d8 d9 d10 d11 d12 d13
  have HK3 := hid (HK2.out.trans hk)
  have HB3 := hid (HB2.out.same hk)
  clear hk HK2 HB2
  obtain ⟨d0, d1, d2, d3, d4, d5, d6, d7, d8, d9, d10, d11, d12, d13⟩ := HB3.out.all14
  cases b1 with
  | false =>
   go_wp2
   go_ret
   exact ⟨by first | rfl | simp, HK3.out⟩
  | true =>
   go_wp2_with fail
   refine (hprev _ HK3.out).mono ?_
   rintro e w4 ⟨rfl, hk⟩
   clear d0 d1 d2 d3 d4 d5 d6 d7 d8 d9 d10 d11 d12 d13
   have HK4 := hid (HK3.out.trans hk)
   have HB4 := hid (HB3.out.same hk)
   clear hk HK3 HB3
   obtain ⟨d0, d1, d2, d3, d4, d5, d6, d7, d8, d9, d10, d11, d12, d13⟩ := HB4.out.all14
   cases b2 with
   | false =>
    go_wp2
    go_ret
    exact ⟨by first | rfl | simp, HK4.out⟩
   | true =>
    go_wp2_with fail
    refine (hbef _ HK4.out).mono ?_
    rintro e w5 ⟨rfl, hk⟩
    clear d0 d1 d2 d3 d4 d5 d6 d7 d8 d9 d10 d11 d12 d13
    have HK5 := hid (HK4.out.trans hk)
    have HB5 := hid (HB4.out.same hk)
    clear hk HK4 HB4
    obtain ⟨d0, d1, d2, d3, d4, d5, d6, d7, d8, d9, d10, d11, d12, d13⟩ := HB5.out.all14
    cases b5 with
    | false =>
     go_wp2
     go_ret
     exact ⟨by first | rfl | simp, HK5.out⟩
    | true =>
     go_wp2_with fail
     refine (haft _ HK5.out).mono ?_
     rintro e w6 ⟨rfl, hk⟩
     clear d0 d1 d2 d3 d4 d5 d6 d7 d8 d9 d10 d11 d12 d13
     have HK6 := hid (HK5.out.trans hk)
     have HB6 := hid (HB5.out.same hk)
     clear hk HK5 HB5
     obtain ⟨d0, d1, d2, d3, d4, d5, d6, d7, d8, d9, d10, d11, d12, d13⟩ := HB6.out.all14
     cases b6 with
     | false =>
      go_wp2
      go_ret
      exact ⟨by first | rfl | simp, HK6.out⟩
     | true =>
      go_wp2
      go_ret
      exact ⟨by first | rfl | simp, HK6.out⟩
end Go.Proofs.YtaeikeglaobeeaaGreat
