import Derived.Test.YtdbpaadndaoihaaGreatDoorG29
import Derived.Test.YtdbpaadndaoihaaGreatDoorG23
import Derived.Test.YtdbpaadndaoihaaGreatDoorG01
import Derived.Test.YtdbpaadndaoihaaGreatDoorG03
import Derived.Test.YtdbpaadndaoihaaGreatDoorG00
import Derived.Test.YtdbpaadndaoihaaGreatDoorG24
import Derived.Test.YtdbpaadndaoihaaGreatDoorG27
import Derived.Laws.IdiomCopy
import Derived.Deep.MidRow
import Derived.Great.BuildSlice
namespace Go.Proofs.YtdbpaadndaoihaaGreatDoor
set_option maxRecDepth 100000
set_option maxHeartbeats 4000000
set_option linter.unusedVariables false
set_option linter.unusedSimpArgs false
open Go Go.RowKit
def Onf (f : Value) (w : World) (Φ : World → Prop) : Prop := ∀ w', Kept (fun b => f.ownBlock = some b) w w' → Φ w'
theorem Onf.here {f : Value} {w : World} {Φ : World → Prop} (h : Onf f w Φ) : Φ w := h w (Kept.refl _ _)
theorem Onf.same {f : Value} {w w' : World} {Φ : World → Prop} (h : Onf f w Φ) (hk : Same w w') : Onf f w' Φ := fun w2 h2 => h w2 ((hk.mono (fun _ _ e => e.elim)).trans h2)
theorem Onf.mono {f : Value} {w : World} {Φ Ψ : World → Prop} (h : Onf f w Φ) (hi : ∀ w', Φ w' → Ψ w') : Onf f w Ψ := fun w2 h2 => hi _ (h w2 h2)
theorem Onf.new {f : Value} {w w1 : World} {Φ : World → Prop} (h : ∀ w', Same w w' → Φ w') (hk : Same w w1) (hf : ∀ b, f.ownBlock = some b → w.heap.size ≤ b) : Onf f w1 Φ :=
 fun w2 h2 => h w2 (hk.next h2 (fun i hi e => by have := hf i e; omega))
theorem Onf.app {fa : Option Addr} {fn fc g n c : Nat} {w w' : World} {Φ : World → Prop} (h : Onf (.slice fa fn fc) w Φ) (hg : w.grownBy w' (Value.slice fa fn fc).ownBlock) (hat : (Value.slice fa fn fc).ownBlock = some g ∨ g = w.heap.size) : Onf (.slice (some ⟨g, 0, none⟩) n c) w' Φ := fun w2 h2 => by
 have hk : Kept (fun b => (Value.slice fa fn fc).ownBlock = some b) w w' := Kept.of_grown hg (fun k e => e)
 refine h w2 (hk.next h2 (fun i hi e => ?_))
 have e2 : g = i := (by simpa [Value.ownBlock] using e)
 subst e2
 rcases hat with e | e
 ·exact e
 ·omega
def TpE (Dx G : Nat) (wx : World) : Prop := (∃ (da : Option Addr) (dn dc : Nat) (qa : Option Addr) (qn qc : Nat) (dur : List Int), TpD wx Dx da dn dc qa qn qc dur) ∧ Blk wx G 24 [.int .i64 2, .int .i64 3, .int .i64 42]
theorem TpE.same {Dx G : Nat} {w w' : World} (h : TpE Dx G w) (hk : Same w w') : TpE Dx G w' := by
 obtain ⟨⟨da, dn, dc, qa, qn, qc, dur, hd⟩, hg⟩ := h
 exact ⟨⟨_, _, _, _, _, _, _, hd.same hk⟩, hg.same hk⟩
def TpL (w : World) (G Dx j : Nat) (f p : Value) (wr : World) : Prop :=
 ∃ (fa : Option Addr) (fn fc : Nat) (ps : List StLogFrame) (pa : Option Addr) (pc : Nat) (P Bg : List Int), f = .slice fa fn fc ∧ p = .slice pa 4096 pc ∧ TpF wr j fa fn fc ps pa pc P Bg ∧ Onf (.slice fa fn fc) wr (TpE Dx G) ∧ (∀ b, (Value.slice fa fn fc).ownBlock = some b → w.heap.size ≤ b) ∧ Same w wr
def TpX (X Z : Nat) (u : Bool) (tv yv : Value) (d Q : List Int) (wx : World) : Prop :=
 Blk wx X 34 [.bool u, tv] ∧ Blk wx Z 38 [.int .i64 0, yv] ∧ Rd .u8 wx tv d ∧ Rd .u8 wx yv Q
theorem TpX.same {X Z : Nat} {u : Bool} {tv yv : Value} {d Q : List Int} {w w' : World} (h : TpX X Z u tv yv d Q w) (hk : Same w w') : TpX X Z u tv yv d Q w' := ⟨h.1.same hk, h.2.1.same hk, h.2.2.1.same hk, h.2.2.2.same hk⟩
def TpC (w : World) (G Dx j : Nat) (pa : Option Addr) (pc : Nat) (P : List Int) (Φ : World → Prop) (f : Value) (wr : World) : Prop :=
 ∃ (fa : Option Addr) (fn fc : Nat) (ps : List StLogFrame) (Bg : List Int), f = .slice fa fn fc ∧ TpF wr j fa fn fc ps pa pc P Bg ∧ Onf (.slice fa fn fc) wr (TpE Dx G) ∧ Onf (.slice fa fn fc) wr Φ ∧ (∀ b, (Value.slice fa fn fc).ownBlock = some b → w.heap.size ≤ b) ∧ Same w wr
theorem ops_row {w : World} {oa : Option Addr} {on oc : Nat} {os : List EOp} {bs : List Int} (hl : bs.length = 4096) (hd : datOpS os = pgOps 2 3 42 1 bs) (ho : OwnR kOp 0 95 5 w (.slice oa on oc) os) : os.length = 8 ∧ on = 8 ∧ ∃ bo off co, Value.slice oa on oc = .slice (some ⟨bo, off, none⟩) os.length co ∧ os.length ≤ co := by
 have h8 : os.length = 8 := by rw [← datOpS_length, hd, pgOps52 hl]; simp [pgOpsK]
 rcases ho.form with ⟨_, h⟩ | ⟨g, c, h, _, _, hc, _⟩
 ·rw [h] at h8
  simp at h8
 ·injection h with e1 e2 e3
  exact ⟨h8, by rw [e2, h8], g, 0, c, by rw [e1, e2, e3], hc⟩
theorem seal_whole {P : List Int} (h : GoodB P) : pageWhole (pageSeal P) = true ∧ IsB (pageSeal P) := by
 obtain ⟨e1, e2, _, e4⟩ := seal_two h.len h.2
 rw [e1]
 exact ⟨e4, e2⟩
theorem wr_small {F : Int} {bs : List Int} {k : Nat} {qs : List PW} (h : dataP qs = wrT F bs k) (hl : bs.length = 4096) (hk : k ≤ 8) : qs.length ≤ 8 ∧ ∀ p ∈ qs, p.bs.length = 512 := by
 refine ⟨by rw [← dataP_length, h, wrT_length]; exact hk, fun p hp => ?_⟩
 have hm : (p.sec, p.bs) ∈ dataP qs := List.mem_map_of_mem (f := fun p : PW => (p.sec, p.bs)) hp
 rw [h] at hm
 obtain ⟨j, hj, e⟩ := List.mem_map.1 hm
 have e2 : parT bs j = p.bs := congrArg Prod.snd e
 rw [← e2]
 exact parT_length hl (by have := List.mem_range.1 hj; omega)
theorem none_data {qs : List PW} (h : dataP qs = []) : qs = [] := List.length_eq_zero_iff.1 (by rw [← dataP_length, h]; rfl)
theorem rd_not {w : World} {D : Nat} {e : TypeId} {v0 v1 v : Value} {bs : List Int} (hb : Blk w D e [v0, v1]) (h0 : ∀ x, v0 ≠ .int .u8 x) (h1 : ∀ x, v1 ≠ .int .u8 x) (h : Rd .u8 w v bs) {w' : World} (hk : Kept (fun b => b = D) w w') : Rd .u8 w' v bs := by
 rcases h.2 with ⟨rfl, a, c, rfl, hac⟩ | ⟨b, off, c, rfl, hc, hcell⟩
 ·exact ⟨h.1, .inl ⟨rfl, a, c, rfl, hac⟩⟩
 by_cases he : bs = []
 ·subst he
  exact ⟨h.1, .inr ⟨b, off, c, rfl, hc, fun i hi => by simp at hi⟩⟩
 have hpos : 0 < bs.length := List.length_pos_iff.2 he
 have hbD : ¬ b = D := fun e2 => by
  subst e2
  have h2 := hcell 0 hpos
  have h3 := hb.cell off
  rw [Nat.add_zero] at h2
  rw [h3] at h2
  match off with
  | 0 => exact h0 _ (Option.some.inj h2)
  | 1 => exact h1 _ (Option.some.inj h2)
  | n + 2 => simp at h2
 exact h.kept hk (fun b' hb' e3 => by
  have e4 : b = b' := (by simpa [Value.ownBlock] using hb')
  exact hbD (e4.trans e3))
theorem blk_ne {w : World} {A D : Nat} {e f : TypeId} {xs ys : List Value} (h : Blk w A e xs) (h2 : Blk w D f ys) (hne : ¬ e = f) : ¬ A = D := fun e1 => by
 subst e1
 unfold Blk at h h2
 rw [h] at h2
 injection h2 with h2
 injection h2 with _ h2 _
 exact hne h2
theorem TpX.box {X Z D : Nat} {u : Bool} {tv yv : Value} {d Q : List Int} {w w' : World} {a0 a1 : Option Addr} {n0 n1 c0 c1 : Nat} (h : TpX X Z u tv yv d Q w) (hb : Blk w D 27 [.slice a0 n0 c0, .slice a1 n1 c1]) (hk : Kept (fun b => b = D) w w') : TpX X Z u tv yv d Q w' :=
 ⟨h.1.kept hk (blk_ne h.1 hb (by decide)), h.2.1.kept hk (blk_ne h.2.1 hb (by decide)), rd_not hb (by simp) (by simp) h.2.2.1 hk, rd_not hb (by simp) (by simp) h.2.2.2 hk⟩
def imgT (L : Int) (ia : Option Addr) (ic : Nat) (B : List Int) : StLogFrame := ⟨L, 1, ⟨8, 0, 0, 1, 0, ⟨false, ⟨0, none, 0, []⟩⟩, ⟨false, ⟨0, none, 0, []⟩⟩, 0, 0, ⟨0, none, 0, 0, []⟩, ⟨0, none, 0, 0, []⟩, ⟨0, ia, ic, B⟩⟩⟩
theorem imgT_cells {L : Int} {ia : Option Addr} {ic : Nat} {B : List Int} (h : B.length = 4096) : (imgT L ia ic B).cells = [.int .i64 L, .int .i64 1, .int .i64 8, .int .i64 0, .int .i64 0, .int .i64 1, .int .i64 0, .bool false, .slice none 0 0, .bool false, .slice none 0 0, .int .i64 0, .int .i64 0, .slice none 0 0, .slice none 0 0, .slice ia 4096 ic] := by
 simp [StLogFrame.cells, imgT, BS.v, FR.v, h]
theorem imgT_rd {L : Int} {w : World} {ia : Option Addr} {ic : Nat} {B : List Int} (hl : B.length = 4096) (h : Rd .u8 w (.slice ia 4096 ic) B) : StLogFrame.rd w (imgT L ia ic B) :=
 ⟨rd_nil8 w, rd_nil8 w, rdF_nil 4 w, rdF_nil 2 w, by
  show Rd .u8 w (.slice ia B.length ic) B
  rw [hl]
  exact h⟩
theorem tpC_image {L : Int} {w w17 w19 : World} {G Dx j : Nat} {fa : Option Addr} {fn fc : Nat} {ps : List StLogFrame} {pb : Option Addr} {pd : Nat} {P Bg B : List Int} {ia : Option Addr} {ic : Nat} {Φ : World → Prop} (hΦ : ∀ w', Same w19 w' → Φ w') (h : TpF w17 j fa fn fc ps pb pd P Bg) (hB : pageSeal P = B) (hl : B.length = 4096) (hi : Rd .u8 w19 (.slice ia 4096 ic) B) (hE : TpE Dx G w19) (hp : Rd .u8 w19 (.slice pb 4096 pd) P) (hk : Same w w19) :
  TpC w G Dx j pb pd P Φ (.slice (some ⟨w19.heap.size, 0, none⟩) 1 1) (w19.alloc (.cells #[.int .i64 L, .int .i64 1, .int .i64 8, .int .i64 0, .int .i64 0, .int .i64 1, .int .i64 0, .bool false, .slice none 0 0, .bool false, .slice none 0 0, .int .i64 0, .int .i64 0, .slice none 0 0, .slice none 0 0, .slice ia 4096 ic] 51)) := by
 have ha : Same w19 (w19.alloc (.cells #[.int .i64 L, .int .i64 1, .int .i64 8, .int .i64 0, .int .i64 0, .int .i64 1, .int .i64 0, .bool false, .slice none 0 0, .bool false, .slice none 0 0, .int .i64 0, .int .i64 0, .slice none 0 0, .slice none 0 0, .slice ia 4096 ic] 51)) := (Kept.refl _ _).alloc _
 have hb := Blk.newL w19 [.int .i64 L, .int .i64 1, .int .i64 8, .int .i64 0, .int .i64 0, .int .i64 1, .int .i64 0, .bool false, .slice none 0 0, .bool false, .slice none 0 0, .int .i64 0, .int .i64 0, .slice none 0 0, .slice none 0 0, .slice ia 4096 ic] 51
 generalize hwx : w19.alloc (.cells #[.int .i64 L, .int .i64 1, .int .i64 8, .int .i64 0, .int .i64 0, .int .i64 1, .int .i64 0, .bool false, .slice none 0 0, .bool false, .slice none 0 0, .int .i64 0, .int .i64 0, .slice none 0 0, .slice none 0 0, .slice ia 4096 ic] 51) = wx at ha hb ⊢
 rw [← imgT_cells hl] at hb
 have hf : ∀ b, (Value.slice (some ⟨w19.heap.size, 0, none⟩) 1 1).ownBlock = some b → w19.heap.size ≤ b := fun b e => by
  have e2 : w19.heap.size = b := (by simpa [Value.ownBlock] using e)
  omega
 have hs := (seal_whole h.good).2
 rw [hB] at hs
 refine ⟨_, _, _, [imgT L ia ic B], pageSeal P, rfl, h.image (hp.same ha) hb (fun w' hw => imgT_rd hl (hi.same (ha.next hw (fun i hi e => by omega)))) rfl rfl hB.symm ⟨⟨by intro x hx; simp [imgT] at hx, by intro x hx; simp [imgT] at hx, hs⟩, ?_⟩, Onf.new (fun w' hw => hE.same hw) ha hf, Onf.new hΦ ha hf, fun b e => by have := hf b e; have := hk.size; omega, hk.trans ha⟩
 show (imgT L ia ic B).record.szs ≤ 7000
 simp [imgT, StLogRecord.szs, StPageRecord.szs, hl]
theorem seeD_snoc (s t : Int) (dur : List Int) (ds : List (Int × List Int)) (bs : List Int) : seeD s dur (ds ++ [(t, bs)]) = if t = s then bs else seeD s dur ds := by
 unfold seeD
 by_cases h : t = s
 ·subst h
  rw [lastP_snoc, if_pos rfl]
  rfl
 ·rw [lastP_append_none _ _ _ (fun p hp => by simp at hp; rw [hp]; exact h), if_neg h]
def SeenR (w w' : World) (dur : List Int) (ds : List (Int × List Int)) (v : Value) : Prop :=
 ∃ G us, v = .slice (some ⟨G, 0, none⟩) us.length us.length ∧ us.length = dur.length / 512 ∧ w.heap.size ≤ G ∧ Blk w' G 22 us ∧ (∀ i (h : i < us.length), Rd .u8 w us[i] (seeD (i : Int) dur ds)) ∧ Same w w'
theorem Tryz.infoBytes' : (Tryz.prog.info? 22).map (fun i => (i.zero, i.size, i.bytes)) = some (some (.slice none 0 0), 1, 24) := by kernel_rfl
theorem Blk.of_row {w : World} {base g n : Nat} {e : TypeId} {xs : List Value} (h : w.ownsRow base e 1 (.slice (some ⟨g, 0, none⟩) n n) n xs) : Blk w g e xs := by
 rcases h.2 with ⟨h, _⟩ | ⟨g', cap, cur, h, _, hg, _, _, hs, ht⟩
 ·cases h
 ·cases h
  have hl : cur.toList.length = n * 1 := by simpa using hs
  rw [List.take_of_length_le (by omega)] at ht
  unfold Blk
  rw [← ht]
  simpa using hg
theorem madeS (n : Nat) : (madeCells (Value.slice none 0 0).cells (n * 1)).toList = List.replicate n (Value.slice none 0 0) := by
 apply List.ext_getElem?
 intro j
 by_cases hj : j < n
 ·simp [madeCells, Value.cells, hj, Nat.mod_one]
 ·rw [List.getElem?_eq_none (by simp [madeCells]; omega), List.getElem?_eq_none (by simp; omega)]
def durU (b o c : Nat) (i : Nat) : Value := .slice (some ⟨b, o + i * 512, none⟩) 512 (c - i * 512)
def durUs (b o c k : Nat) : List Value := (List.range k).map (durU b o c)
theorem durUs_length (b o c k : Nat) : (durUs b o c k).length = k := by simp [durUs]
theorem durUs_step (b o c k n : Nat) (h : k < n) : (durUs b o c k ++ List.replicate (n - k) (Value.slice none 0 0)).set k (durU b o c k) = durUs b o c (k + 1) ++ List.replicate (n - (k + 1)) (Value.slice none 0 0) := by
 obtain ⟨m, hm⟩ : ∃ m, n - k = m + 1 := ⟨n - k - 1, by omega⟩
 rw [hm, List.set_append_right (h := by rw [durUs_length]; exact Nat.le_refl _), durUs_length, Nat.sub_self, List.replicate_succ, List.set_cons_zero, show n - (k + 1) = m from by omega]
 unfold durUs
 rw [List.range_succ, List.map_append, List.append_assoc]
 rfl
theorem seen_any (dv pv : Value) (dur : List Int) (ps : List PW) (w : World) (hV : Valid dur.length (dataP ps)) (hv : RdD w dv pv dur ps) :
  Calls Tryz.prog 53 #[.agg #[dv, pv]] w fun e w' => ∃ v, e = .returned v ∧ SeenR w w' dur (dataP ps) v := by
 obtain ⟨⟨h1, h2, h3, h4⟩, hall⟩ := hV
 rw [dataP_length] at h4
 have HALL : Hid (∀ k (h : k < ps.length), 0 ≤ ps[k].sec ∧ ps[k].sec < (dur.length / 512 : Nat) ∧ ps[k].bs.length = 512) := fun k h => hall (ps[k].sec, ps[k].bs) (List.mem_map.2 ⟨ps[k], List.getElem_mem h, rfl⟩)
 have hn2 := hv.pend.len
 have hm := hv.dur.1
 unfold maxLen at hn2
 obtain ⟨N, hN⟩ : ∃ N, dur.length / 512 = N := ⟨_, rfl⟩
 have hlen : dur.length = N * 512 := by omega
 obtain ⟨b0, o0, c0, rfl, hl0, hc0⟩ : ∃ b off c, dv = .slice (some ⟨b, off, none⟩) dur.length c ∧ dur.length ≤ c ∧ ∀ i, i < dur.length → w.cell? ⟨b, off + i, none⟩ = some (.int .u8 (dur.getD i 0)) := by
  rcases hv.dur.2 with ⟨rfl, _⟩ | h
  ·simp at h2
  ·exact h
 have HC0 := hid hc0
 obtain ⟨a2, c2, rfl⟩ := hv.pend.form
 have HP := hid hv.pend
 obtain ⟨i0, hi, hz0, hz1, hz2⟩ := info_parts Tryz.infoBytes'
 have HK0 := hid (sameA w [.slice (some ⟨b0, o0, none⟩) dur.length c0, .slice a2 ps.length c2] 27)
 have HB0 := hid (Blk.newL w [.slice (some ⟨b0, o0, none⟩) dur.length c0, .slice a2 ps.length c2] 27)
 have k0 := fun wx => countSectors_any (some ⟨b0, o0, none⟩) dur.length c0 a2 ps.length c2 wx hm
 rw [hN] at h2 h3 k0 HALL
 have HLN := hid hlen
 have HN := hid hN
 clear hv hc0 hall hN h1
 generalize hdl : dur.length = L at hm hlen hl0 HLN HK0 HB0 k0 ⊢
 have HDL := hid hdl
 clear hdl
 subst hlen
 go_enter Tryz.func53, Tryz.ntmps53
 go_wp2_with fail
 refine (k0 _).mono ?_
 rintro e w1 ⟨rfl, hw1⟩
 have hk1 : Same (w.alloc (.cells #[.slice (some ⟨b0, o0, none⟩) (N * 512) c0, .slice a2 ps.length c2] 27)) w1 := by rw [hw1]; exact (Kept.refl _ _).alloc _
 have HK1 := hid (HK0.out.trans hk1)
 have HB1 := hid (HB0.out.same hk1)
 clear hk1 hw1 k0 HK0 HB0
 go_wp2_with (at_make; go_loud (refine wpList_make_full _ rfl (.tmp 8) (.tmp 8) 101 rfl 0 22 i0 (.slice none 0 0) 1 Tryz.underlying101 hi hz0 hz1 .i64 .i64 _ _ N rfl rfl (by simp) (by simp) (by rw [hz2]; omega) (by unfold maxLen; omega) (Nat.zero_le _) ?_); intro w2 hown hgrow; have HG2 := (show Hid (Blk w2 w1.heap.size 22 (List.replicate N (Value.slice none 0 0))) from (by rw [madeS] at hown; exact Blk.of_row hown)); have HK2 : Hid (Same w1 w2) := Kept.of_grown hgrow (fun k e => by cases e); clear hown hgrow)
 have hzw : w.heap.size < w1.heap.size := HB1.out.lt
 have HB2 := hid (HB1.out.same HK2.out)
 go_loopw [12] (fun i wr => ∃ (k : Nat), k ≤ N ∧ i = .int .i64 (k : Int) ∧ Hid (Blk wr w1.heap.size 22 (durUs b0 o0 c0 k ++ List.replicate (N - k) (Value.slice none 0 0))) ∧ Hid (Blk wr w.heap.size 27 [.slice (some ⟨b0, o0, none⟩) (N * 512) c0, .slice a2 ps.length c2]) ∧ Hid (Same w1 wr)) (fun i _ => N - (intOf i).toNat)
 case atStart => exact ⟨0, Nat.zero_le _, rfl, by simpa [durUs, Hid] using HG2.out, HB2, HK2⟩
 case round =>
  obtain ⟨k, hk, rfl, HG, HB, HK⟩ := hrel
  clear HG2 HB2 HK2 HB1
  by_cases hlt : k < N
  case pos =>
   obtain ⟨d0, d1⟩ := HB.out.all2
   have e1 : ((k : Int) * 512).toNat = k * 512 := by omega
   have e2 : (((k : Int) + 1) * 512).toNat = k * 512 + 512 := by omega
   have g1 : ((k : Int) + 1) * 512 ≤ (c0 : Int) := by omega
   have g2 : 0 ≤ ((k : Int) + 1) * 512 := by omega
   have g3 : (k : Int) * 512 ≤ ((k : Int) + 1) * 512 := by omega
   have hcl := HG.out.cell k
   have hfz := HG.out.frozen k
   rw [List.getElem?_append_right (by rw [durUs_length]; exact Nat.le_refl _), durUs_length, Nat.sub_self, List.getElem?_replicate, if_pos (by omega)] at hcl
   have HST := hid (HG.out.stored k (durU b0 o0 c0 k))
   rw [durUs_step b0 o0 c0 k N hlt] at HST
   unfold durU at HST
   go_wp2
   go_roundw
   case rel => exact ⟨k + 1, by omega, by go_num, HST, HB.out.other (by dsimp only; omega) _, HK.out.setCell (.inl (Nat.le_refl _)) _⟩
   case measure => simp [intOf]; omega
  obtain rfl : k = N := by omega
  have hzr := HK.out.size
  have HG1 := HG.out
  rw [Nat.sub_self, List.replicate_zero, List.append_nil] at HG1
  have HUS : Hid (∀ i (h : i < (durUs b0 o0 c0 k).length), Rd .u8 w (durUs b0 o0 c0 k)[i] (seeD (i : Int) dur (dataP (ps.take 0)))) := fun i h => by
   rw [durUs_length] at h
   have e : (durUs b0 o0 c0 k)[i]'(by rw [durUs_length]; exact h) = durU b0 o0 c0 i := by simp [durUs]
   rw [e]
   have hs : seeD (i : Int) dur (dataP (ps.take 0)) = (dur.drop (i * 512)).take 512 := by simp [seeD, dataP, lastP]
   rw [hs]
   exact Rd.part (fun j hj => HC0.out j hj) (i * 512) 512 (by rw [HDL.out]; omega) rfl (by omega) (by simp [maxLen])
  have HGF := hid HG1
  clear HG1 HG
  obtain ⟨d0, d1⟩ := HB.out.all2
  go_wp2_with fail
  go_loopw [30] (fun i wx => ∃ (j : Nat) (us : List Value), j ≤ ps.length ∧ i = .int .i64 (j : Int) ∧ Hid (us.length = k) ∧ Hid (Blk wx w1.heap.size 22 us) ∧ Hid (∀ i (h : i < us.length), Rd .u8 w us[i] (seeD (i : Int) dur (dataP (ps.take j)))) ∧ Hid (Same w1 wx)) (fun i _ => ps.length - (intOf i).toNat)
  case atStart => exact ⟨0, _, Nat.zero_le _, rfl, durUs_length _ _ _ _, HGF, HUS, HK⟩
  case round =>
   clear HGF HUS d0 d1 HB HK
   obtain ⟨j, us, hj, rfl, HUL, HG, HUS, HK⟩ := hrel
   by_cases hlt : j < ps.length
   case neg =>
    obtain rfl : j = ps.length := by omega
    rw [List.take_length] at HUS
    go_wp2
    go_ret
    exact ⟨_, rfl, w1.heap.size, us, by rw [HUL.out]; rfl, by rw [HUL.out, HN.out], by omega, HG.out, HUS.out, HK1.out.trans HK.out⟩
   obtain ⟨b2, off2, rfl, hc⟩ : ∃ b off, a2 = some ⟨b, off, none⟩ ∧ ∀ i (h : i < ps.length), w.cell? ⟨b, off + i * 2, none⟩ = some (.int .i64 ps[i].sec) ∧ w.cell? ⟨b, off + i * 2 + 1, none⟩ = some ps[i].v := by
    rcases HP.out.row with ⟨h, _⟩ | ⟨b, off, c, e, hc⟩
    ·rw [h] at hlt; simp at hlt
    ·simp only [Value.slice.injEq, true_and] at e
     obtain ⟨rfl, rfl⟩ := e
     exact ⟨b, off, rfl, hc⟩
   have q1 := (HK1.out.trans HK.out).cellOf (hc j hlt).1 id
   have q2 := (HK1.out.trans HK.out).cellOf (hc j hlt).2 id
   obtain ⟨s1, s2, s3⟩ := HALL.out j hlt
   obtain ⟨sn, hsn⟩ : ∃ sn : Nat, ps[j].sec = sn := ⟨ps[j].sec.toNat, by omega⟩
   have HD := hid (HP.out.data _ (List.getElem_mem hlt))
   obtain ⟨a5, c5, e5⟩ := HD.out.form
   have hstep : ps.take (j + 1) = ps.take j ++ [ps[j]] := List.take_succ_eq_append_getElem hlt
   have hdat : dataP (ps.take (j + 1)) = dataP (ps.take j) ++ [((sn : Int), ps[j].bs)] := by
    rw [hstep]; unfold dataP; rw [List.map_append]; simp [hsn]
   have HDAT := hid hdat
   have HD5 := HD.out
   rw [e5, s3] at HD5
   have HDV := hid HD5
   rw [hsn] at q1 s1 s2
   rw [e5, s3] at q2
   have hsk : sn < k := by omega
   have hcl := HG.out.cell sn
   have hfz := HG.out.frozen sn
   rw [List.getElem?_eq_getElem (by rw [HUL.out]; exact hsk)] at hcl
   generalize us[sn]'(by rw [HUL.out]; exact hsk) = uold at hcl
   have hzk := HK.out.size
   have hz1 := HG.out.lt
   clear hc hstep hdat e5 hsn HD5 HD s1 s2 s3
   go_wp2
   go_roundw
   case rel =>
    refine ⟨j + 1, us.set sn (.slice a5 512 c5), by omega, by go_num, by rw [List.length_set]; exact HUL.out, ?_, fun i h => ?_, ?_⟩
    ·first | exact (HG.out.stored sn _).alloc _ | exact (HG.out.alloc _).stored sn _
    ·rw [HDAT.out, seeD_snoc]
     by_cases e : (sn : Int) = (i : Int)
     ·rw [if_pos e]
      obtain rfl : sn = i := by omega
      rw [List.getElem_set_self]
      exact HDV.out
     ·rw [if_neg e, List.getElem_set_ne (by omega)]
      exact HUS.out i (by rwa [List.length_set] at h)
    ·first | exact (HK.out.setCell (.inl (Nat.le_refl _)) _).alloc _ | exact (HK.out.alloc _).setCell (.inl (Nat.le_refl _)) _
   case measure => simp [intOf]; omega
theorem run_copy_m {P : Program} (w : World) (dT sT ty elem : TypeId) (m b o dLen dCap : Nat) (a : Addr) (sLen sCap c : Nat) (cs : List Value)
  (hu : P.underlying dT = some (.slice elem)) (hs : (P.info? elem).map (·.size) = some m) (hc0 : Nat.min sLen dLen = c) (hn : c * m = cs.length)
  (hsrc : ∀ j v, cs[j]? = some v → w.cell? (a.add j) = some v) (hc : ∀ j, j < cs.length → (w.cell? ⟨b, o + j, none⟩).isSome = true) (hf : ∀ j, j < cs.length → w.frozen? ⟨b, o + j, none⟩ = false) (h1 : ∀ v ∈ cs, v.oneCell' = true) :
  (Builtin.copy_ #[dT, sT] ty #[.slice (some ⟨b, o, none⟩) dLen dCap, .slice (some a) sLen sCap]).run P w = .ok (goInt c) (w.setCells b o cs) := by
 have hl := run_loadCells_list (P := P) w a cs hsrc
 have hst := run_storeCells_cells (P := P) b o cs 0 w (by simpa using hc) (by simpa using hf) h1
 cases hq : P.info? elem with
 | none => simp [hq] at hs
 | some i =>
  have hi : i.size = m := by simpa [hq] using hs
  simp [Builtin.copy_, run_underlying hu, Builtin.lenOf, Builtin.firstCells, sizeOf, typeInfo, hq, hi, hc0, hn, hl, hst]
section
variable {P : Program} {ops : Array Oper} {o : Oper} {a : Act} {w : World} {K : Act → World → Prop} {Q : Exit → Act → World → Prop} {E : Prop}
theorem step_copy_m {B off dl dc sl sc m c : Nat} {e tb : TypeId} {ad : Addr} {xs : List Value} (hgd : o.guard = none) (d s : Operand) (T : TypeId) (ho : o.op = .call { callee := .builtin .copy, args := #[d, s], argTypes := #[T, T] })
  (hu : P.underlying T = some (.slice tb)) (hsz : (P.info? tb).map (·.size) = some m) (cs : List Value) (hb : Blk w B e xs) (hd : a.eval d = .slice (some ⟨B, off, none⟩) dl dc) (hs : a.eval s = .slice (some ad) sl sc)
  (hc0 : Nat.min sl dl = c) (hn : c * m = cs.length) (hsrc : ∀ j v, cs[j]? = some v → w.cell? (ad.add j) = some v) (hfit : off + cs.length ≤ xs.length) (h1 : ∀ v ∈ cs, v.oneCell' = true)
  (h : K (a.put o.dst (goInt c)) (w.setCells B off cs)) :
  if Region.wanted o (yielded ops a.tmps) = true then Oper.wp P o a w K Q else E := by
 have hw : Region.wanted o (yielded ops a.tmps) = true := by simp [Region.wanted, hgd]
 rw [if_pos hw]
 have hrun := run_copy_m (P := P) w T T o.type tb m B off dl dc ad sl sc c cs hu hsz hc0 hn hsrc (fun j hj => by rw [hb.cell, List.getElem?_eq_getElem (by omega)]; rfl) (fun j _ => hb.frozen _) h1
 unfold Oper.wp
 simp [execOp, ho, resolve, invoke, builtin, hd, hs, hrun, Result.andThen]
 exact h
end
theorem lay_join (A C : List Int) (m : Nat) (h : C.length ≤ m) : lay (vals .u8 (A ++ List.replicate m 0)) A.length (vals .u8 C) = vals .u8 ((A ++ C) ++ List.replicate (m - C.length) 0) := by
 unfold lay
 simp only [vals, List.length_map, List.map_append, List.map_replicate]
 rw [List.take_append_of_le_length (by simp), List.take_of_length_le (by simp), List.drop_append, List.drop_eq_nil_of_le (by simp), List.drop_replicate]
 simp
theorem join_any (G n : Nat) (us : List Value) (F : Nat) (S : Nat → List Int) (w : World) (hG : Blk w G 22 us) (hF : F + 8 ≤ n) (hm : n ≤ 1024) (hS8 : ∀ i, i < 8 → (S i).length = 512) (hR : ∀ i, i < 8 → ∃ u, us[F + i]? = some u ∧ Rd .u8 w u (S i)) :
  Calls Tryz.prog 52 #[.slice (some ⟨G, 0, none⟩) n n, .int .i64 (F : Int)] w fun e w' => e = .returned (.agg (vals .u8 (joinS S 8)).toArray) ∧ Same w w' := by
 have HG := hid hG
 have HS8 := hid hS8
 have HR := hid hR
 have hGl := hG.lt
 have hj : (Tryz.prog.info? 5).map (·.size) = some 1 := by kernel_rfl
 have hz8 : Tryz.zeroCells71.toList = vals .u8 (List.replicate 4096 0) := by kernel_rfl
 clear hG hS8 hR
 go_enter Tryz.func52, Tryz.ntmps52
 go_wp2_with fail
 obtain ⟨w1, hw1⟩ : ∃ w1, ((w.alloc (.cells Tryz.zeroCells71 71)).alloc (.cells Tryz.zeroCells71 71)) = w1 := ⟨_, rfl⟩
 have HB1 := (show Hid (Blk w1 w.heap.size 71 (vals .u8 (List.replicate 4096 0))) from by
  rw [← hw1, ← hz8]
  exact (Blk.new w Tryz.zeroCells71 71).alloc _)
 have HB2 := (show Hid (Blk w1 (w.heap.size + 1) 71 (vals .u8 (List.replicate 4096 0))) from by
  rw [← hw1, ← hz8]
  have h := Blk.new (w.alloc (.cells Tryz.zeroCells71 71)) Tryz.zeroCells71 71
  rw [World.size_alloc] at h
  exact h)
 have HK1 := (show Hid (Same w w1) from by rw [← hw1]; exact ((Kept.refl _ _).alloc _).alloc _)
 rw [hw1]
 clear hw1 hz8
 go_loopw [7] (fun i wr => ∃ (k : Nat), k ≤ 8 ∧ i = .int .i64 (k : Int) ∧ Hid (Blk wr w.heap.size 71 (vals .u8 (List.replicate 4096 0))) ∧ Hid (Blk wr (w.heap.size + 1) 71 (vals .u8 (joinS S k ++ List.replicate (4096 - k * 512) 0))) ∧ Hid (Same w wr)) (fun i _ => 8 - (intOf i).toNat)
 case atStart => exact ⟨0, Nat.zero_le _, rfl, HB1, HB2, HK1⟩
 case round =>
  obtain ⟨k, hk, rfl, HA, HB, HK⟩ := hrel
  clear HB1 HB2 HK1
  by_cases hlt : k < 8
  case pos =>
   obtain ⟨u, hu, hr⟩ := HR.out k hlt
   have hl8 := HS8.out k hlt
   have hlj := joinS_length S k (fun i hi => HS8.out i (by omega))
   obtain ⟨bu, ou, cu, rfl, hcu⟩ : ∃ b off c, u = .slice (some ⟨b, off, none⟩) 512 c ∧ ∀ i, i < 512 → w.cell? ⟨b, off + i, none⟩ = some (.int .u8 ((S k).getD i 0)) := by
    rcases hr.2 with ⟨h, _⟩ | ⟨b, off, c, e, hl, hc⟩
    ·rw [h] at hl8; simp at hl8
    ·rw [hl8] at e hc
     exact ⟨b, off, c, e, hc⟩
   have hcG := (HG.out.same HK.out).cell (F + k)
   rw [hu] at hcG
   have e1 : ((k : Int) * 512).toNat = k * 512 := by omega
   have e2 : ((F : Int) + (k : Int)).toNat = F + k := by omega
   have g1 : (k : Int) * 512 ≤ 4096 := by omega
   have g2 : 0 ≤ (k : Int) * 512 := by omega
   have g3 : 0 ≤ (F : Int) + (k : Int) := by omega
   have g4 : (F : Int) + (k : Int) < (n : Int) := by omega
   have q1 : IntKind.i64.wrap ((k : Int) * 512) = (k : Int) * 512 := by rw [IntKind.wrap_i64]; omega
   have q2 : IntKind.i64.wrap ((F : Int) + (k : Int)) = (F : Int) + (k : Int) := by rw [IntKind.wrap_i64]; omega
   have hne : ¬ 4096 = k * 512 := by omega
   have HCU := hid hcu
   have HL8 := hid hl8
   have HLJ := hid hlj
   have hzk := HK.out.size
   clear hu hr hcu hl8 hlj
   go_wp2_with fail
   have hS : (fun wx : World => wx.cell? ⟨G, F + k, none⟩ = some (.slice (some ⟨bu, ou, none⟩) 512 cu)) wr.drew := hcG
   refine wp_region_V (fun wx : World => wx.cell? ⟨G, F + k, none⟩ = some (.slice (some ⟨bu, ou, none⟩) 512 cu)) 99 10 rfl (by kernel_rfl) ?_
   refine tk 0 10 hS ?_
   refine tk 1 11 hS ?_
   refine tkV 2 12 (.slice (some ⟨w.heap.size + 1, k * 512, none⟩) (4096 - k * 512) (4096 - k * 512)) hS ?_
   refine tk 3 13 hS ?_
   refine tk 4 14 hS ?_
   refine tk 5 15 hS ?_
   refine tk 6 16 hS ?_
   refine tkV 7 17 (.pointer (some ⟨G, F + k, none⟩)) hS ?_
   refine tk 8 18 hS ?_
   refine wpAnyV_one (i := 9) (by kernel_rfl) rfl (fun K hK => ?_)
   refine step_copy_m (m := 1) (c := 512) (e := 71) (xs := vals .u8 (joinS S k ++ List.replicate (4096 - k * 512) 0)) (by rfl) (.tmp 12) (.tmp 18) 22 (by rfl) Tryz.underlying22 hj (vals .u8 (S k)) HB.out.drew (by rfl) (by rfl) (Nat.min_eq_left (by omega)) (by rw [vals_length, HL8.out]) (news_of (fun i hi => by rw [HL8.out] at hi; exact HK.out.drew.cellOf (HCU.out i hi) id)) (by rw [vals_length, vals_length, List.length_append, List.length_replicate, HL8.out, HLJ.out]; omega) vals_one ?_
   have HB5 := hid (Blk.setCells (vals .u8 (S k)) (k * 512) HB.out.drew (by rw [vals_length, vals_length, List.length_append, List.length_replicate, HL8.out, HLJ.out]; omega))
   rw [← HLJ.out, lay_join _ _ _ (by rw [HL8.out, HLJ.out]; omega), ← joinS_succ, HL8.out, HLJ.out] at HB5
   have HA5 := (show Hid (Blk (wr.drew.setCells (w.heap.size + 1) (k * 512) (vals .u8 (S k))) w.heap.size 71 (vals .u8 (List.replicate 4096 0))) from HA.out.drew.kept (Kept.setCells (R := fun b => b = w.heap.size + 1) (.inr rfl) _ _ (Kept.refl _ _)) (by omega))
   have HK5 := (show Hid (Same w (wr.drew.setCells (w.heap.size + 1) (k * 512) (vals .u8 (S k)))) from Kept.setCells (.inl (by omega)) _ _ HK.out.drew)
   refine hK.out _ _ (fun _ => (Kept.setCells (R := fun b => b = w.heap.size + 1) (.inr rfl) _ _ (Kept.refl _ _)).cellOf (hS : wr.drew.cell? _ = _) (by dsimp only; omega)) ?_
   clear hK K
   try simp only [Act.put, sA, s0, sS]
   refine wpAnyV_done (by kernel_rfl) ?_
   generalize wr.drew.setCells (w.heap.size + 1) (k * 512) (vals .u8 (S k)) = w5 at HB5 HA5 HK5 ⊢
   go_wp2
   go_roundw
   case rel => exact ⟨k + 1, by omega, by go_num, HA5, by unfold Hid; rw [show 4096 - (k + 1) * 512 = 4096 - k * 512 - 512 from by omega]; exact HB5.out, HK5⟩
   case measure => simp [intOf]; omega
  obtain rfl : k = 8 := by omega
  have hlj := joinS_length S 8 (fun i hi => HS8.out i hi)
  have hzk := HK.out.size
  have HB8 := HB.out
  rw [show 4096 - 8 * 512 = 0 from rfl, List.replicate_zero, List.append_nil] at HB8
  obtain ⟨ds, hds⟩ : ∃ ds : List Value, vals .u8 (joinS S 8) = ds := ⟨_, rfl⟩
  have HDS := hid hds
  have hone : ∀ v ∈ ds, v.oneCell' = true := by rw [← hds]; exact vals_one
  have hsl : ds.length = 4096 := by rw [← hds, vals_length, hlj]
  rw [hds] at HB8
  have HRG := (show Hid (wr.rangeAt (w.heap.size + 1) 0 ds) from HB8.rangeAll)
  have HTH := (show Hid (wr.there w.heap.size 0 ds.toArray.size) from HA.out.there 0 _ (by rw [vals_length, List.length_replicate, List.size_toArray, hsl]; omega))
  have hb5 := HA.out.setCells ds 0 (by rw [vals_length, List.length_replicate, hsl]; omega)
  rw [lay_all _ _ (by rw [vals_length, List.length_replicate, hsl])] at hb5
  have HRG2 := (show Hid ((wr.setCells w.heap.size 0 ds).rangeAt w.heap.size 0 ds) from hb5.rangeAll)
  have HI := (show Hid ((Tryz.prog.info? 71).map (·.size) = some ds.length) from (by rw [hsl]; exact (by kernel_rfl : (Tryz.prog.info? 71).map (·.size) = some 4096) : (Tryz.prog.info? 71).map (·.size) = some ds.length))
  have HI2 := (show Hid ((Tryz.prog.info? 71).map (·.size) = some ds.toArray.size) from by rw [List.size_toArray]; exact HI.out)
  have HONE := (show Hid (ds.toArray.all (·.oneCell') = true) from all_oneCell_toArray hone)
  have HK4 := (show Hid (Same w (wr.setCells w.heap.size 0 ds)) from Kept.setCells (.inl (Nat.le_refl _)) ds 0 HK.out)
  clear hds hone hsl hb5 HB8
  go_wp2_with (first | (refine wpList_load_mid rfl 71 _ rfl (w.heap.size + 1) 0 rfl ds _ HRG.out Tryz.underlying71 rfl HI.out ?_) | (refine wpList_store_mid rfl 71 _ _ rfl w.heap.size 0 ds.toArray rfl rfl HTH.out HI2.out HONE.out ?_))
  have hlv := run_loadVar_mid (P := Tryz.prog) _ w.heap.size 0 71 ds _ HRG2.out Tryz.underlying71 rfl HI.out
  refine bodyPost_ret (v := .agg ds.toArray) ?_ rfl ?_
  ·simp [results, Tryz.results52, asAddr, hlv, Act.put]
  ·rw [HDS.out]
   exact ⟨rfl, HK4.out⟩
theorem implReadPage_any (p f l g : Int) (dv pv : Value) (dur : List Int) (ps : List PW) (w : World) (hv : RdD w dv pv dur ps) :
  Calls Tryz.prog 14 #[.agg #[dv, pv], .agg #[.int .i64 p, .int .i64 f, .int .i64 l], .int .i64 g] w fun e w' => ∃ a c, e = .returned (.slice a (rdPg p f l g dur (dataP ps)).length c) ∧ (∀ b, (Value.slice a (rdPg p f l g dur (dataP ps)).length c).ownBlock = some b → w.heap.size ≤ b) ∧ Own 0 71 .u8 w' (.slice a (rdPg p f l g dur (dataP ps)).length c) (rdPg p f l g dur (dataP ps)) ∧ Same w w' := by
 have HV := hid hv
 have kF := fun wx hv => holds_any p f l dv pv dur ps wx hv
 have kS := fun wx => implPgSec_any p f l g wx
 have kN := fun hV wx hv => seen_any dv pv dur ps wx hV hv
 obtain ⟨a1, c1, rfl⟩ := hv.dur.form
 obtain ⟨a2, c2, rfl⟩ := hv.pend.form
 clear hv
 obtain ⟨HK0, HA0, HG0⟩ := new2 w [.slice a1 dur.length c1, .slice a2 ps.length c2] 27 [.int .i64 p, .int .i64 f, .int .i64 l] 24
 by_cases hs : pgSec p f l g = -1
 ·rw [rdPg_no (fun h => by have := fit_sec h.1 h.2.1 h.2.2; omega)]
  rw [hs] at kS
  clear hs
  go_enter Tryz.func14, Tryz.ntmps14
  go_wp2_with fail
  refine (kS _).mono ?_
  rintro e w1 ⟨rfl, hk1⟩
  have HK1 := hid (HK0.out.trans hk1)
  clear hk1
  go_wp2
  go_ret
  exact ⟨_, _, rfl, fun b hb => by simp [Value.ownBlock] at hb, Own.nil _ _ _ _, HK1.out⟩
 obtain ⟨_, hg1, hg2, hsec⟩ := (pgSec_cases p f l g).resolve_left hs
 by_cases hF : fitD p f l dur.length (dataP ps)
 case neg =>
  rw [rdPg_no (fun h => hF h.1)]
  obtain ⟨F, hFF⟩ : ∃ F, pgSec p f l g = F := ⟨_, rfl⟩
  rw [hFF] at kS hs
  clear hsec hFF
  go_enter Tryz.func14, Tryz.ntmps14
  go_wp2_with fail
  refine (kS _).mono ?_
  rintro e w1 ⟨rfl, hk1⟩
  have HK1 := hid (HK0.out.trans hk1)
  have HG1 := hid (HG0.out.same hk1)
  have HA1 := hid (HA0.out.same hk1)
  obtain ⟨e0, e1⟩ := HA1.out.all2
  obtain ⟨e2, e3, e4⟩ := HG1.out.all3
  clear hk1
  go_wp2_with fail
  refine (kF _ (HV.out.same HK1.out)).mono ?_
  rintro e w2 ⟨⟨B, rfl, hB⟩, hk2⟩
  obtain rfl : B = false := by
   cases B
   ·rfl
   ·exact absurd (hB.1 rfl) hF
  have HK2 := hid (HK1.out.trans hk2)
  clear hB hk2
  go_wp2
  go_ret
  exact ⟨_, _, rfl, fun b hb => by simp [Value.ownBlock] at hb, Own.nil _ _ _ _, HK2.out⟩
 rw [rdPg_yes hF hg1 hg2]
 obtain ⟨s1, s2, s3⟩ := fit_sec hF hg1 hg2
 obtain ⟨F, hFF⟩ : ∃ F : Nat, 2 + l + g * 8 = (F : Int) := ⟨(2 + l + g * 8).toNat, by omega⟩
 have hRL := pgB_length hF hg1 hg2
 have kN := fun wx hv => kN hF.2.1 wx hv
 have HSL : Hid (∀ k : Nat, k < 8 → (seeD ((F : Int) + (k : Int)) dur (dataP ps)).length = 512) := fun k hk => seeD_length hF.2.1 (by omega) (by omega)
 have HN8 : Hid (dur.length / 512 ≤ 1024) := hF.2.1.1.2.2.1
 rw [hFF] at s2 hRL hsec ⊢
 rw [hsec] at kS
 have HF2 : Hid (F + 8 ≤ dur.length / 512) := by unfold Hid; omega
 have hs' : ¬ (F : Int) = -1 := by omega
 have HFD := hid hF
 have HRL := hid hRL
 rw [hRL]
 clear hF s1 s2 s3 hsec hFF hs hRL
 go_enter Tryz.func14, Tryz.ntmps14
 go_wp2_with fail
 refine (kS _).mono ?_
 rintro e w1 ⟨rfl, hk1⟩
 have HK1 := hid (HK0.out.trans hk1)
 have HG1 := hid (HG0.out.same hk1)
 have HA1 := hid (HA0.out.same hk1)
 obtain ⟨e0, e1⟩ := HA1.out.all2
 obtain ⟨e2, e3, e4⟩ := HG1.out.all3
 clear hk1
 go_wp2_with fail
 refine (kF _ (HV.out.same HK1.out)).mono ?_
 rintro e w2 ⟨⟨B, rfl, hB⟩, hk2⟩
 obtain rfl : B = true := hB.2 HFD.out
 have HK2 := hid (HK1.out.trans hk2)
 have HA2 := hid (HA1.out.same hk2)
 clear hB hk2 e0 e1 e2 e3 e4
 obtain ⟨e0, e1⟩ := HA2.out.all2
 go_wp2_with fail
 refine (kN _ (HV.out.same HK2.out)).mono ?_
 rintro e w3 ⟨v3, rfl, G3, us, rfl, hul, hG3, hb3, hr3, hk3⟩
 have HK3 := hid (HK2.out.trans hk3)
 have HUL := hid hul
 have HB3 := hid hb3
 have HR3 : Hid (∀ i, i < 8 → ∃ u, us[F + i]? = some u ∧ Rd .u8 w3 u (seeD ((F : Int) + (i : Int)) dur (dataP ps))) := fun i hi => by
  have h1 := HF2.out
  have h2 : F + i < us.length := by omega
  refine ⟨us[F + i], List.getElem?_eq_getElem h2, ?_⟩
  have h := (hr3 (F + i) h2).same hk3
  rwa [show ((F + i : Nat) : Int) = (F : Int) + (i : Int) from by omega] at h
 clear hr3 hk3 hb3 hG3 e0 e1 hul
 go_wp2_with fail
 refine (join_any G3 us.length us F (fun i => seeD ((F : Int) + (i : Int)) dur (dataP ps)) w3 HB3.out (by rw [HUL.out]; exact HF2.out) (by rw [HUL.out]; exact HN8.out) HSL.out HR3.out).mono ?_
 rintro e w4 ⟨rfl, hk4⟩
 have HK4 := hid (HK3.out.trans hk4)
 obtain ⟨ds, hds⟩ : ∃ ds : List Value, vals .u8 (joinS (fun i => seeD ((F : Int) + (i : Int)) dur (dataP ps)) 8) = ds := ⟨_, rfl⟩
 have kL := fun wx => list_any (pgB (F : Int) dur (dataP ps)) wx HRL.out
 have hds2 : vals .u8 (pgB (F : Int) dur (dataP ps)) = ds := hds
 rw [hds2] at kL
 have HDS := hid hds2
 rw [hds]
 have hsl : ds.length = 4096 := by rw [← hds2, vals_length, HRL.out]
 have hone := (show ds.toArray.all (·.oneCell') = true from all_oneCell_toArray (by rw [← hds2]; exact vals_one))
 clear hds hds2 hk4 HSL HR3
 have hst := run_storeCells_new (P := Tryz.prog) w4 71 Tryz.zeroCells71 ds.toArray (by rw [List.size_toArray, hsl]; exact (by kernel_rfl : (Tryz.prog.info? 71).map (·.size) = some 4096)) (by rw [show ds.toArray.size = 4096 from by rw [List.size_toArray, hsl]]; exact Tryz.zeroCells71_size) hone
 rw [List.toList_toArray] at hst
 have HRG := (show Hid ((w4.alloc (.cells ds.toArray 71)).rangeAt w4.heap.size 0 ds) from (Blk.newL w4 ds 71).rangeAll)
 have HI := (show Hid ((Tryz.prog.info? 71).map (·.size) = some ds.length) from (by rw [hsl]; exact (by kernel_rfl : (Tryz.prog.info? 71).map (·.size) = some 4096) : (Tryz.prog.info? 71).map (·.size) = some ds.length))
 have HK5 := (show Hid (Same w (w4.alloc (.cells ds.toArray 71))) from HK4.out.alloc _)
 clear hone
 go_wp2_with (first
  | (refine wpList_load_mid rfl 71 _ rfl w4.heap.size 0 rfl ds _ HRG.out Tryz.underlying71 rfl HI.out ?_)
  | (go_at_call 30; (with_reducible refine (kL _).mono ?_); rintro e w6 ⟨rfl, hb6, hk6⟩; have HK6 := hid (HK5.out.trans hk6); rw [← HDS.out] at hb6; rw [World.size_alloc] at hb6; have HO6 := hid (Blk.own hb6 (by rw [HRL.out]; unfold maxLen; omega)); rw [HRL.out] at HO6; clear hb6 hk6 hst))
 have HZ6 := HK5.out.size
 go_ret
 refine ⟨_, _, rfl, fun b hb => ?_, HO6.out, HK6.out⟩
 have h : w4.heap.size + 1 = b := by simpa [Value.ownBlock] using hb
 rw [World.size_alloc] at HZ6
 omega
def keepS (ks : List Int) (k : Nat) : Bool := decide (k < ks.length) && (ks.getD k 0 != 0)
theorem keep_cell {kd : IntKind} {w : World} {v : Value} {ks : List Int} (h : Rd kd w v ks) {k : Nat} (hk : k < ks.length) : ∃ b o c, v = .slice (some ⟨b, o, none⟩) ks.length c ∧ w.cell? ⟨b, o + k, none⟩ = some (.int kd (ks.getD k 0)) := by
 rcases h.2 with ⟨rfl, _⟩ | ⟨b, o, c, e, _, hc⟩
 ·simp at hk
 ·exact ⟨b, o, c, e, hc k hk⟩
theorem crash_any (B : Nat) (dv pv : Value) (dur : List Int) (ds : List (Int × List Int)) (kv : Value) (ks : List Int) (w : World) (hp : Plat w B dv pv dur ds) (hval : Valid dur.length ds) (hkv : Rd .i64 w kv ks) (hsep : ks ≠ [] → ∀ b, looks kv b → dv.ownBlock ≠ some b) :
  Calls Tryz.prog 54 #[.pointer (some ⟨B, 0, none⟩), kv] w fun e w' => e = .returned (.tuple #[]) ∧ Plat w' B dv (.slice none 0 0) (settleN (keepS ks) dur ds ds.length) [] ∧ Kept (fun b => b = B ∨ dv.ownBlock = some b) w w' := by
 obtain ⟨gd, cd, rfl⟩ : ∃ gd cd, dv = .slice (some ⟨gd, 0, none⟩) (dur.length / 512) cd := by
  rcases hp.dur.2 with ⟨_, h⟩ | ⟨g, cap, _, h, _⟩
  ·have := hval.1.2.1; omega
  ·exact ⟨g, cap, h⟩
 obtain ⟨aq, cq, rfl⟩ : ∃ aq cq, pv = .slice aq ds.length cq := by
  rcases hp.pend.2 with ⟨rfl, h⟩ | ⟨g, cap, _, h, _⟩
  ·exact ⟨none, 0, by rw [h]⟩
  ·exact ⟨_, _, h⟩
 have HP : Hid (Plat w B (.slice (some ⟨gd, 0, none⟩) (dur.length / 512) cd) (.slice aq ds.length cq) dur ds) := hp
 have HV : Hid (Valid dur.length ds) := hval
 have hdl : ds.length ≤ 8192 := hval.1.2.2.2
 have hdn : dur.length / 512 ≤ 1024 := hval.1.2.2.1
 obtain ⟨n, hn⟩ : ∃ n, dur.length / 512 = n := ⟨_, rfl⟩
 rw [hn] at HP hdn ⊢
 have HN : Hid (dur.length = n * 512) := by have := hval.1.1; unfold Hid; omega
 have hbd : gd ≠ B := fun e => HP.out.a1 (by rw [e]; rfl)
 obtain ⟨ak, ck, rfl⟩ := hkv.form
 have HKV := (show Hid (Rd .i64 w (.slice ak ks.length ck) ks) from hkv)
 have HSEP := (show Hid (ks ≠ [] → ∀ b, looks (.slice ak ks.length ck) b → (Value.slice (some ⟨gd, 0, none⟩) n cd).ownBlock ≠ some b) from (by rw [← hn]; exact hsep))
 have hkm := hkv.1
 unfold maxLen at hkm
 clear hp hval hn hkv hsep
 have hz93 := zero93
 obtain ⟨p1, p2, p3, p4⟩ := HP.out.box
 go_enter Tryz.func54, Tryz.ntmps54
 go_wp2
 go_loopw [11] (fun i wr => ∃ (k : Nat), k ≤ ds.length ∧ i = .int .i64 k ∧ Hid (wr.ownsRow 0 113 512 (.slice (some ⟨gd, 0, none⟩) n cd) n (vals .u8 (settleN (keepS ks) dur ds k))) ∧ Hid (Kept (fun b => b = gd) w wr)) (fun i _ => ds.length - (intOf i).toNat)
 case atStart => exact ⟨0, Nat.zero_le _, rfl, (by have h := HP.out.dur; rw [show dur.length / 512 = n from by have := HN.out; omega] at h; exact h), Kept.refl _ _⟩
 case round =>
  obtain ⟨k, hk, rfl, HRr, HKr⟩ := hrel
  by_cases hlt : k < ds.length
  ·obtain ⟨gq, rfl⟩ : ∃ gq, aq = some ⟨gq, 0, none⟩ := by
    rcases HP.out.pend.2 with ⟨h, h0⟩ | ⟨g, cap, _, h, _⟩
    ·omega
    ·simp only [Value.slice.injEq] at h; exact ⟨g, h.1⟩
   have hgq : gq ≠ gd := fun e => HP.out.a3 gd rfl (by rw [e]; rfl)
   obtain ⟨v1, v2, v3⟩ := HV.out.2 ds[k] (List.getElem_mem hlt)
   have hpr := HKr.out.owns HP.out.pend (fun b hb => by have e : b = gq := (Option.some.inj hb).symm; show ¬ b = gd; omega)
   have hplen : (penCells ds).length = ds.length * 513 := penCells_length ds (fun p hp => (HV.out.2 p hp).2.2)
   have hrange : wr.rangeAt gq (k * 513) (Value.int .i64 ds[k].1 :: vals .u8 ds[k].2) := by
    have h := owns_range hpr (k * 513) 513 (by rw [hplen]; omega)
    rw [penCells_at ds (fun p hp => (HV.out.2 p hp).2.2) k hlt] at h
    have e : (Value.int .i64 ds[k].1 :: (vals .u8 ds[k].2 ++ penCells (ds.drop (k + 1)))).take 513 = Value.int .i64 ds[k].1 :: vals .u8 ds[k].2 := by
     rw [List.take_succ_cons, List.take_append_of_le_length (by rw [vals_length, v3]; exact Nat.le_refl _), List.take_of_length_le (by rw [vals_length, v3]; exact Nat.le_refl _)]
    rw [e] at h
    exact h
   have HRG := (show Hid (wr.rangeAt gq (k * 513) (Value.int .i64 ds[k].1 :: vals .u8 ds[k].2)) from hrange)
   have hcl : (vals .u8 ds[k].2).length = 512 := by rw [vals_length]; exact v3
   have HCL : Hid ((Value.int .i64 ds[k].1 :: vals .u8 ds[k].2).length = 513) := by unfold Hid; rw [List.length_cons, hcl]
   have HI93 : Hid ((Tryz.prog.info? 134).map (·.size) = some (Value.int .i64 ds[k].1 :: vals .u8 ds[k].2).length) := by
    obtain ⟨i0, hi, hz0, hz1, hz2⟩ := info_parts Tryz.info93
    unfold Hid; rw [HCL.out, hi]; simp [hz1]
   obtain ⟨cs, hcs⟩ : ∃ cs, cs = Value.int .i64 ds[k].1 :: vals .u8 ds[k].2 := ⟨_, rfl⟩
   rw [← hcs] at HRG HCL HI93
   have HCS : Hid (cs = Value.int .i64 ds[k].1 :: vals .u8 ds[k].2) := hcs
   have HONE : Hid (∀ u ∈ cs, u.oneCell' = true) := fun u hu => by
    rw [hcs] at hu
    rcases List.mem_cons.1 hu with rfl | hu
    ·rfl
    ·exact vals_one u hu
   have hzs : zeros93.size = 513 := by kernel_rfl
   have HTH : Hid ((wr.alloc (.cells zeros93 134)).there wr.heap.size 0 cs.toArray.size) := fun j hj => by
    rw [List.size_toArray, HCL.out] at hj
    refine ⟨?_, ?_⟩
    ·rw [cell_of_row _ wr.heap.size (0 + j) zeros93 134 (0, 0) (heap_alloc_new wr _)]
     simp [hzs, hj]
    ·exact frozen_of_row _ _ _ zeros93 134 (heap_alloc_new wr _)
   have HI93' : Hid ((Tryz.prog.info? 134).map (·.size) = some cs.toArray.size) := by rw [List.size_toArray]; exact HI93
   obtain ⟨wb, hwb⟩ : ∃ wb, wb = (wr.alloc (.cells zeros93 134)).setCells wr.heap.size 0 cs := ⟨_, rfl⟩
   have HRB : Hid (wb.rangeAt wr.heap.size 0 cs) := by rw [hwb]; exact World.rangeAt_setCells_same _ _ _ _ (by have h := HTH.out; rwa [List.size_toArray] at h)
   have HKB : Hid (Same wr wb) := by
    obtain ⟨_, hgr⟩ := owns_setCellsP (base := 0) (e := 134) (size := 513) (g := wr.heap.size) (n := 1) (cap := 1) cs 0 (wr.alloc (.cells zeros93 134)) zeros93.toList (World.ownsRow_lit wr zeros93 1 (Nat.zero_le _) (by unfold maxLen; omega) (by rw [hzs])) (by rw [HCL.out, Array.length_toList, hzs]; exact Nat.le_refl _)
    rw [hwb]
    exact ((Kept.refl _ _).alloc _).grown hgr (fun k e => .inl (by have : wr.heap.size = k := Option.some.inj e; omega))
   have HWB : Hid (wb = (wr.alloc (.cells zeros93 134)).setCells wr.heap.size 0 cs) := hwb
   clear hcs hwb
   have hki : (k : Int) < (ds.length : Int) := by omega
   have hk0 : (0 : Int) ≤ (k : Int) := by omega
   clear hpr hplen hrange p1 p2 p3 p4
   have hst : ∀ k, k ≤ ds.length → (settleN (keepS ks) dur ds k).length = dur.length := fun k hk => settleN_length _ _ _ HV.out k hk
   obtain ⟨sn, hsn⟩ : ∃ sn : Nat, ds[k].1 = sn := ⟨ds[k].1.toNat, by omega⟩
   have hnn := HN.out
   have hsn1 : sn < n := by have := v2; omega
   have x1 := ((HP.out.box.kept HKr.out (by show ¬ B = gd; omega)).same HKB.out).1
   have x2 := ((HP.out.box.kept HKr.out (by show ¬ B = gd; omega)).same HKB.out).2.1
   have y1 : wb.cell? ⟨wr.heap.size, 0, none⟩ = some (.int .i64 (sn : Int)) := by have h := HRB.out 0 (.int .i64 ds[k].1) (by rw [HCS.out]; rfl); rw [hsn] at h; exact h
   have RG : Hid (wb.drew.rangeAt wr.heap.size 1 (vals .u8 ds[k].2)) := fun j v hj => by
    have h := HRB.out (j + 1) v (by rw [HCS.out, List.getElem?_cons_succ]; exact hj)
    show wb.cell? _ = _
    rw [← h]
    congr 2
    omega
   have HI91 : Hid ((Tryz.prog.info? 113).map (·.size) = some (vals .u8 ds[k].2).length) := by
    obtain ⟨j0, hj, hy0, hy1, hy2⟩ := info_parts Tryz.info91
    unfold Hid; rw [hcl, hj]; simp [hy1]
   have HID : Hid ((Tryz.prog.info? 113).map (·.size) = some (vals .u8 ds[k].2).toArray.size) := by rw [List.size_toArray]; exact HI91
   have HOD := (show Hid (wb.drew.ownsRow 0 113 512 (.slice (some ⟨gd, 0, none⟩) n cd) n (vals .u8 (settleN (keepS ks) dur ds k))) from (HKB.out.owns HRr.out (fun _ _ => id)).drew)
   have HFD : Hid (sn * 512 + 512 ≤ (vals .u8 (settleN (keepS ks) dur ds k)).length) := by unfold Hid; rw [vals_length, hst k (by omega)]; omega
   have HTD : Hid (wb.drew.there gd (sn * 512) (vals .u8 ds[k].2).toArray.size) := by rw [List.size_toArray, hcl]; exact owns_there HOD.out (sn * 512) 512 HFD.out
   have g1 : (sn : Int) < (n : Int) := by omega
   have g2 : (0 : Int) ≤ (sn : Int) := by omega
   have HSN : Hid (ds[k].1 = sn) := hsn
   have HCL2 : Hid ((vals .u8 ds[k].2).length = 512) := hcl
   clear hst hnn v1 v2 v3 hcl hzs
   by_cases hsl : keepS ks k = true
   case neg =>
    have hs0 : keepS ks k = false := by simpa using hsl
    have e0 : settleN (keepS ks) dur ds (k + 1) = settleN (keepS ks) dur ds k := by rw [settleN, hs0, if_neg (by simp)]
    have HR9 := (show Hid (wb.ownsRow 0 113 512 (.slice (some ⟨gd, 0, none⟩) n cd) n (vals .u8 (settleN (keepS ks) dur ds (k + 1)))) from (by rw [e0]; exact HKB.out.owns HRr.out (fun _ _ => id)))
    have HK9 := (show Hid (Kept (fun b => b = gd) w wb) from HKr.out.trans (HKB.out.mono (fun _ _ h => h.elim)))
    clear e0
    by_cases hkl : k < ks.length
    ·obtain ⟨kb, ko, kc, ek, hkc⟩ := keep_cell HKV.out hkl
     simp only [Value.slice.injEq, true_and] at ek
     obtain ⟨rfl, rfl⟩ := ek
     have hkb : kb ≠ gd := fun e => HSEP.out (fun e0 => by simp [e0] at hkl) kb ⟨_, _, _, rfl⟩ (by rw [e]; rfl)
     have q3 := HK9.out.cellOf hkc (by show ¬ kb = gd; omega)
     have q4 : (ks.getD k 0 != 0) = false := by unfold keepS at hsl; rw [decide_eq_true hkl, Bool.true_and] at hsl; simpa using hsl
     generalize ks.getD k 0 = z at q3 q4
     have hkk : (k : Int) < (ks.length : Int) := by omega
     clear hkc hsl x1 x2 y1
     go_wp2_with (first | (refine wpList_load_mid rfl 134 _ rfl gq (k * 513) rfl cs _ HRG.out Tryz.underlying134 rfl HI93.out ?_) | (refine wpList_store_mid rfl 134 _ _ rfl wr.heap.size 0 cs.toArray rfl rfl HTH.out HI93'.out (all_oneCell_toArray HONE.out) ?_; rw [List.toList_toArray, ← HWB.out]))
     go_wp2
     go_roundw
     case rel => exact ⟨k + 1, by omega, by go_num, HR9, HK9⟩
     case measure => simp [intOf]; omega
    ·have hkk : ¬ (k : Int) < (ks.length : Int) := by omega
     clear hsl hkl x1 x2 y1
     go_wp2_with (first | (refine wpList_load_mid rfl 134 _ rfl gq (k * 513) rfl cs _ HRG.out Tryz.underlying134 rfl HI93.out ?_) | (refine wpList_store_mid rfl 134 _ _ rfl wr.heap.size 0 cs.toArray rfl rfl HTH.out HI93'.out (all_oneCell_toArray HONE.out) ?_; rw [List.toList_toArray, ← HWB.out]))
     go_wp2
     go_roundw
     case rel => exact ⟨k + 1, by omega, by go_num, HR9, HK9⟩
     case measure => simp [intOf]; omega
   have HSL : Hid (keepS ks k = true) := hsl
   have hkl : k < ks.length := by unfold keepS at hsl; simp at hsl; exact hsl.1
   obtain ⟨kb, ko, kc, ek, hkc⟩ := keep_cell HKV.out hkl
   simp only [Value.slice.injEq, true_and] at ek
   obtain ⟨rfl, rfl⟩ := ek
   have hkb : kb ≠ gd := fun e => HSEP.out (fun e0 => by simp [e0] at hkl) kb ⟨_, _, _, rfl⟩ (by rw [e]; rfl)
   have q3 := (HKr.out.trans (HKB.out.mono (fun _ _ h => h.elim))).cellOf hkc (by show ¬ kb = gd; omega)
   have q4 : (ks.getD k 0 != 0) = true := by unfold keepS at hsl; rw [decide_eq_true hkl, Bool.true_and] at hsl; simpa using hsl
   generalize ks.getD k 0 = z at q3 q4
   have hkk : (k : Int) < (ks.length : Int) := by omega
   clear hkc hsl
   have HST : Hid (vals .u8 (settleN (keepS ks) dur ds (k + 1)) = lay (vals .u8 (settleN (keepS ks) dur ds k)) (sn * 512) (vals .u8 ds[k].2)) := by
    unfold Hid
    have e : ds.getD k (0, []) = ds[k] := by simp [List.getD, hlt]
    rw [settleN, if_pos HSL.out, e, hsn, Int.toNat_natCast]
    simp [vals, putAt, lay]
   clear hsn
   go_wp2_with (first | (refine wpList_load_mid rfl 134 _ rfl gq (k * 513) rfl cs _ HRG.out Tryz.underlying134 rfl HI93.out ?_) | (refine wpList_store_mid rfl 134 _ _ rfl wr.heap.size 0 cs.toArray rfl rfl HTH.out HI93'.out (all_oneCell_toArray HONE.out) ?_; rw [List.toList_toArray, ← HWB.out]))
   have hS : (fun w' => w'.cell? ⟨B, 0, none⟩ = some (.slice (some ⟨gd, 0, none⟩) n cd) ∧ w'.cell? ⟨wr.heap.size, 0, none⟩ = some (.int .i64 (sn : Int)) ∧ w'.rangeAt wr.heap.size 1 (vals .u8 ds[k].2)) wb.drew := by exact ⟨x1, y1, RG.out⟩
   refine wp_region_V (fun w' => w'.cell? ⟨B, 0, none⟩ = some (.slice (some ⟨gd, 0, none⟩) n cd) ∧ w'.cell? ⟨wr.heap.size, 0, none⟩ = some (.int .i64 (sn : Int)) ∧ w'.rangeAt wr.heap.size 1 (vals .u8 ds[k].2)) 9 10 rfl (by kernel_rfl) ?_
   refine tk 0 27 hS ?_
   refine tk 1 28 hS ?_
   refine tk 2 29 hS ?_
   refine tk 3 30 hS ?_
   refine tk 4 31 hS ?_
   refine tk 5 32 hS ?_
   refine tk 6 33 hS ?_
   refine wpAnyV_take (i := 7) (v := .agg (vals .u8 ds[k].2).toArray) (some 34) rfl rfl (by kernel_rfl) (by kernel_rfl) (by kernel_rfl) (by kernel_rfl) (fun _ _ _ h => h) (yieldsIf_load_mid (by rfl) _ _ rfl _ _ rfl _ _ (fun w hSw => by (try dsimp (config := { zetaDelta := true }) only at hSw); exact hSw.2.2) Tryz.underlying113 rfl HI91.out) hS ?_
   try simp only [Act.put, sA, s0, sS]
   refine tk 8 35 hS ?_
   refine wpAnyV_one (i := 9) (by kernel_rfl) rfl (fun K hK => ?_)
   rw [if_pos (by rfl)]
   refine wp_store_mid _ _ _ rfl gd (sn * 512) (vals .u8 ds[k].2).toArray rfl rfl HTD.out HID.out (all_oneCell_toArray (fun v hv => vals_one v hv)) ?_
   simp only [List.getElem_toArray, List.getElem_cons_succ, List.getElem_cons_zero, List.toList_toArray]
   refine hK.out _ _ (fun h => absurd rfl h) ?_
   clear hK K
   refine wpAnyV_done (by kernel_rfl) ?_
   try simp only [Act.put, sA, s0, sS]
   obtain ⟨q1, q2⟩ := owns_setCellsP (vals .u8 ds[k].2) (sn * 512) wb.drew _ HOD.out (by rw [HCL2.out]; exact HFD.out)
   rw [← HST.out] at q1
   have HR2 := (show Hid (World.ownsRow _ 0 113 512 (.slice (some ⟨gd, 0, none⟩) n cd) n (vals .u8 (settleN (keepS ks) dur ds (k + 1)))) from q1)
   have HK2 := (show Hid (Kept (fun b => b = gd) w _) from (HKr.out.trans ((HKB.out.mono (fun _ _ h => h.elim)).drew)).trans (Kept.of_grown q2 (fun k e => (Option.some.inj e).symm)))
   generalize wb.drew.setCells gd (sn * 512) (vals .u8 ds[k].2) = wn at *
   clear q1 q2 hS x1 x2 y1
   go_wp2
   go_roundw
   case rel => exact ⟨k + 1, by omega, by go_num, HR2, HK2⟩
   case measure => simp [intOf]; omega
  ·obtain rfl : k = ds.length := by omega
   have HX := (show Hid (FBox wr B (.slice (some ⟨gd, 0, none⟩) n cd) (.slice aq ds.length cq)) from HP.out.box.kept HKr.out (by show ¬ B = gd; omega))
   clear p1 p2 p3 p4
   obtain ⟨p1, p2, p3, p4⟩ := HX.out
   go_wp2
   go_end0
   have hl := settleN_length (keepS ks) dur ds HV.out ds.length (Nat.le_refl _)
   have hk2 : Kept (fun b => b = B) wr (wr.setCell ⟨B, 1, none⟩ (.slice none 0 0)) := Kept.setCell (Kept.refl (fun b => b = B) wr) (p := ⟨B, 1, none⟩) (.inr rfl) _
   refine ⟨rfl, ⟨HX.out.set1 _, ?_, World.ownsRow_nil _ _ _ _, HP.out.a1, by simp [Value.ownBlock], fun b _ hb => by simp [Value.ownBlock] at hb⟩, ?_⟩
   ·rw [hl, show dur.length / 512 = n from by have := HN.out; omega]
    exact hk2.owns HRr.out (fun b hb => by have e : b = gd := (Option.some.inj hb).symm; show ¬ b = B; omega)
   ·exact (HKr.out.mono (fun b _ e => .inr (by rw [e]; rfl))).trans (hk2.mono (fun b _ e => .inl e))
end Go.Proofs.YtdbpaadndaoihaaGreatDoor
