import Derived.Test.YtglokpakmlegbaaGreatDoorG01
import Derived.Test.YtglokpakmlegbaaGreatDoorG04
import Derived.Test.YtglokpakmlegbaaGreatDoorG05
import Derived.Test.YtglokpakmlegbaaGreatDoorG07
import Derived.Test.YtglokpakmlegbaaGreatDoorG00
import Derived.Test.YtglokpakmlegbaaGreatDoorG16
import Derived.Test.YtglokpakmlegbaaGreatDoorG12
import Derived.Test.YtglokpakmlegbaaGreatDoorG03
import Derived.Lib.AppendZerosOnto
import Derived.Deep.AppendSrc
import Derived.Lib.SmallJoins
import Derived.Deep.DeepCutAuto
namespace Go.Proofs.YtglokpakmlegbaaGreatDoor
set_option maxRecDepth 100000
set_option maxHeartbeats 8000000
set_option linter.unusedVariables false
set_option linter.unusedSimpArgs false
open Go.RowKit
theorem numB_len' {x : Int} {n : Nat} (hn : 1 ≤ n ∧ n ≤ 8) (h0 : 0 ≤ x) (h1 : x < 256 ^ n) : (numB x n).length = n := by rw [numB_lows hn h0 h1, lows_length]
theorem frB_len {lsn ep : Int} {R : List Int} (hB : IsB R) (hR : R.length ≤ 5000) (hl : 1 ≤ lsn ∧ lsn ≤ 1099511627776) (he : 1 ≤ ep ∧ ep ≤ 4294967295) : (frB lsn ep R).length = 20 + R.length := by
 have hs : (sumB lsn ep R).length = 12 + R.length := by
  have h1 : (numB lsn 8).length = 8 := numB_len' (n := 8) (by omega) (by omega) (by omega)
  have h2 : (numB ep 4).length = 4 := numB_len' (n := 4) (by omega) (by omega) (by omega)
  simp only [sumB, List.length_append, h1, h2]
 have hc := crcOn_le 0 (sumB lsn ep R) (by omega) (by omega) (sumB_isB hB)
 have h3 : (numB (20 + (R.length : Int)) 4).length = 4 := numB_len' (n := 4) (by omega) (by omega) (by omega)
 have h4 : (numB (crcOn 0 (sumB lsn ep R)) 4).length = 4 := numB_len' (n := 4) (by omega) (by omega) (by omega)
 simp only [frB, List.length_append, h3, h4, hs]
 omega
theorem bgR_len : (recBd bgR.dat).length = 13 := by kernel_rfl
theorem tbR_len : (recBd tbR.dat).length = 19 := by kernel_rfl
theorem fr_bg : (frFd 512 1 bgR.dat).length = 33 := by
 rw [frFd_yes ⟨bgR_good, by omega, by omega⟩, frB_len (recBd_isB bgR_isB bgR_good) (by rw [bgR_len]; omega) (by omega) (by omega), bgR_len]
theorem fr_tb : (frFd 545 1 tbR.dat).length = 39 := by
 rw [frFd_yes ⟨tbR_good, by omega, by omega⟩, frB_len (recBd_isB tbR_isB tbR_good) (by rw [tbR_len]; omega) (by omega) (by omega), tbR_len]
def ckB : List Int := frFd 512 1 bgR.dat ++ frFd 545 1 tbR.dat
theorem ckB_len : ckB.length = 72 := by unfold ckB; rw [List.length_append, fr_bg, fr_tb]
theorem m1_good : mF 1 1 512 512 = 0 := by kernel_rfl
theorem encM1 : encM 1 1 512 512 = mB 1 1 512 512 := if_pos m1_good
theorem encM1_len : (encM 1 1 512 512).length = 512 := by rw [encM1, mB_length]
theorem pageNew_len (k : Nat) (h : k < 16) : (pageNew (k : Int)).length = 4096 := by
 unfold pageNew
 rw [if_neg (by omega)]
 exact by rw [sealB_length _ (by rw [newB_length]; decide), newB_length]
def fmtP (l : Int) (xs : List Int) : Nat → List Int
 | 0 => xs
 | k + 1 => layI (fmtP l xs k) ((2 + l + (k : Int) * 8).toNat * 512) (pageNew (k : Int))
theorem fmtP_length (l : Int) (xs : List Int) (hl : 0 ≤ l) (p : Nat) (hp : p ≤ 16) (hx : (2 + l + (p : Int) * 8).toNat * 512 = xs.length) : ∀ k, k ≤ p → (fmtP l xs k).length = xs.length
 | 0, _ => rfl
 | k + 1, h => by
  have ih := fmtP_length l xs hl p hp hx k (by omega)
  unfold fmtP
  rw [layI_length _ _ _ (by rw [ih, pageNew_len k (by omega), ← hx]; omega), ih]
def fmtD (p f l : Int) : List Int := if geoF p f l = 0 then fmtP l (layI (layI (List.replicate ((2 + l + p * 8).toNat * 512) 0) 0 (encM 1 1 512 512)) 1024 ckB) p.toNat else []
theorem fmtD_le (p f l : Int) : (fmtD p f l).length ≤ 524288 := by
 unfold fmtD
 split
 ·rename_i h
  obtain ⟨h1, h2, h3, h4⟩ := geo_good h
  have e0 : (List.replicate ((2 + l + p * 8).toNat * 512) (0 : Int)).length = (2 + l + p * 8).toNat * 512 := List.length_replicate
  have e1 : (layI (List.replicate ((2 + l + p * 8).toNat * 512) (0 : Int)) 0 (encM 1 1 512 512)).length = (2 + l + p * 8).toNat * 512 := by rw [layI_length _ _ _ (by rw [e0, encM1_len]; omega), e0]
  have e2 : (layI (layI (List.replicate ((2 + l + p * 8).toNat * 512) (0 : Int)) 0 (encM 1 1 512 512)) 1024 ckB).length = (2 + l + p * 8).toNat * 512 := by rw [layI_length _ _ _ (by rw [e1, ckB_len]; omega), e1]
  rw [fmtP_length l _ (by omega) p.toNat (by omega) (by rw [e2, Int.toNat_of_nonneg (by omega)]) _ (Nat.le_refl _), e2]
  omega
 ·simp
structure FmI (w wx : World) (G Z D g N : Nat) (p f l : Int) (xs : List Int) : Prop where
 geo : Blk wx G 29 [.int .i64 p, .int .i64 f, .int .i64 l]
 res : Blk wx Z 27 [.slice none 0 0, .slice none 0 0]
 box : Blk wx D 27 [.slice (some ⟨g, 0, none⟩) N N, .slice none 0 0]
 own : Own 0 5 .u8 wx (.slice (some ⟨g, 0, none⟩) N N) xs
 len : N = xs.length
 fr : w.heap.size ≤ g ∧ g ≠ G ∧ g ≠ Z ∧ g ≠ D ∧ w.heap.size ≤ Z
 kept : Same w wx
theorem FmI.same {w wx wy : World} {G Z D g N : Nat} {p f l : Int} {xs : List Int} (h : FmI w wx G Z D g N p f l xs) (hk : Same wx wy) : FmI w wy G Z D g N p f l xs :=
 ⟨h.geo.same hk, h.res.same hk, h.box.same hk, h.own.same hk, h.len, h.fr, h.kept.trans hk⟩
theorem FmI.keptG {w wx : World} {G Z D g N : Nat} {p f l : Int} {xs : List Int} (h : FmI w wx G Z D g N p f l xs) (o : Nat) (ys : List Int) : Kept (fun b => b = g) wx (wx.setCells g o (vals .u8 ys)) :=
 Kept.setCells (R := fun b => b = g) (.inr rfl) _ _ (Kept.refl _ _)
theorem FmI.lay {w wx : World} {G Z D g N : Nat} {p f l : Int} {xs : List Int} (h : FmI w wx G Z D g N p f l xs) (o : Nat) (ys : List Int) (ho : o + ys.length ≤ N) : FmI w (wx.setCells g o (vals .u8 ys)) G Z D g N p f l (layI xs o ys) :=
 ⟨h.geo.kept (h.keptG o ys) (fun e => h.fr.2.1 e.symm), h.res.kept (h.keptG o ys) (fun e => h.fr.2.2.1 e.symm), h.box.kept (h.keptG o ys) (fun e => h.fr.2.2.2.1 e.symm), h.own.laid h.len o ys ho,
  by rw [layI_length _ _ _ (by rw [← h.len]; exact ho)]; exact h.len, h.fr, h.kept.next (h.keptG o ys) (fun i hi e => by have := h.fr.1; omega)⟩
theorem byte_one' : (Tryz.prog.info? 5).map (·.size) = some 1 := by kernel_rfl
theorem FmI.copy {w wx : World} {G Z D g N : Nat} {p f l : Int} {xs : List Int} (h : FmI w wx G Z D g N p f l xs) (o : Nat) (ys : List Int) (sv : Value) (ho : o + ys.length ≤ N) (ho2 : o < N) (hs : Rd .u8 wx sv ys) :
  (Builtin.copy_ #[24, 24] 3 #[.slice (some ⟨g, o, none⟩) (N - o) (N - o), sv]).run Tryz.prog wx = .ok (goInt ys.length) (wx.setCells g o (vals .u8 ys)) := by
 have hcp := run_copyOwn (P := Tryz.prog) 3 Tryz.underlying24 byte_one' h.own h.len o ho hs
 rwa [show behind g N o = some ⟨g, o, none⟩ from if_neg (by omega)] at hcp
theorem zeroCells_one (z : Value) (n : Nat) : Builtin.zeroCells #[z] n = (List.replicate n z).toArray := by
 unfold Builtin.zeroCells
 apply Array.ext (by simp)
 intro i h1 h2
 simp [Nat.mod_one]
theorem run_app_zeros {ty : TypeId} {w : World} {v : Value} {bs : List Int} (k : Nat) (hk : 0 < k) (ho : Own 0 5 .u8 w v bs) (hl : bs.length + k ≤ 1048576) :
  ∃ a n c w', (Builtin.append_ #[24, 3] ty #[v, .int .i64 k]).run Tryz.prog w = .ok (.slice a n c) w' ∧ Own 0 5 .u8 w' (.slice a n c) (bs ++ List.replicate k 0) ∧ Grew w v w' (.slice a n c) := by
 obtain ⟨i0, hi, hz0, hz1, hz2⟩ := info_parts Tryz.infoByte'
 have grow : ∀ (base : Option Addr) (cap : Nat), v = .slice base bs.length cap → cap < bs.length + k → (Builtin.firstCells i0.size bs.length (.slice base bs.length cap)).run Tryz.prog w.drew = .ok (vals .u8 bs).toArray w.drew →
   ∃ a n c w', (Builtin.append_ #[24, 3] ty #[v, .int .i64 k]).run Tryz.prog w = .ok (.slice a n c) w' ∧ Own 0 5 .u8 w' (.slice a n c) (bs ++ List.replicate k 0) ∧ Grew w v w' (.slice a n c) := by
  rintro base cap rfl hc hold
  have h := Lib.run_append_grow_zeros (P := Tryz.prog) w 24 3 ty 5 i0 (.int .u8 0) .i64 .i64 Tryz.underlying24 Tryz.underlying3 hi hz0 base bs.length cap (vals .u8 bs) hold k hk (by rw [hz1]; decide) hc (by omega) (by rw [hz2]; omega) (by rw [hz2]; have := nextslicecap_le hc; omega)
  have hge := grownCap_ge w (bs.length + k) cap 5
  have hle := grownCap_le_maxLen w (bs.length + k) cap 5 (by unfold maxLen; omega)
  rw [show (Value.int .u8 0).cells = #[.int .u8 0] from rfl, zeroCells_one, zeroCells_one] at h
  refine ⟨_, _, _, _, h, ⟨by simp [vals], .inr ⟨w.heap.size, grownCap w (bs.length + k) cap 5, _, by simp, Nat.zero_le _, heap_alloc_new w.drew _, by simpa using hge, hle, ?_, ?_⟩⟩, ⟨(Kept.refl _ _).drew.alloc _, fun b hb => .inr ?_⟩⟩
  ·simp [vals_length]
   omega
  ·simp only [Nat.mul_one, List.length_append, List.length_replicate]
   rw [List.append_toArray, List.append_toArray, List.toList_toArray, List.toList_toArray, List.take_append_of_le_length (by simp [vals_length]), List.take_of_length_le (by simp [vals_length])]
   simp [vals]
  ·have : w.heap.size = b := by simpa [Value.ownBlock] using hb
   omega
 rcases ho.2 with ⟨rfl, hn⟩ | ⟨g, cap, cur, rfl, _, hb, hnc, hcm, hsz, htk⟩
 ·obtain rfl : bs = [] := List.length_eq_zero_iff.1 hn
  exact grow none 0 rfl (by simp; exact hk) (by rw [hz1]; exact run_firstCells_none _ _ _ _ _)
 ·simp only [Nat.mul_one] at hsz htk
  have hcell : ∀ j u, (vals .u8 bs)[j]? = some u → w.cell? ((⟨g, 0, none⟩ : Addr).add j) = some u := fun j u hu => by
   have hB : Blk w g 5 cur.toList := by unfold Blk; rw [Array.toArray_toList]; exact hb
   have hj : j < bs.length := by have := (List.getElem?_eq_some_iff.1 hu).1; rwa [vals_length] at this
   rw [addr_add, Nat.zero_add, hB.cell, ← hu, ← htk, List.getElem?_take_of_lt hj]
  by_cases hc : cap < bs.length + k
  ·exact grow _ cap rfl hc (by rw [hz1]; exact run_firstCells_some (P := Tryz.prog) (w := w.drew) 1 bs.length ⟨g, 0, none⟩ bs.length cap (vals .u8 bs) (by simp [vals_length]) hcell)
  ·have hB : Blk w g 5 cur.toList := by unfold Blk; rw [Array.toArray_toList]; exact hb
   have hlen : cur.toList.length = cap := by rw [Array.length_toList]; exact hsz
   have hst := hB.stores (P := Tryz.prog) bs.length (List.replicate k (.int .u8 0)) (by simp [hlen]; omega) (fun u hu => by rw [List.eq_of_mem_replicate hu]; rfl)
   have hB2 := hB.setCells (List.replicate k (.int .u8 0)) bs.length (by simp [hlen]; omega)
   refine ⟨some ⟨g, 0, none⟩, bs.length + k, cap, w.setCells g bs.length (List.replicate k (.int .u8 0)), ?_, ?_, ⟨Kept.setCells (R := fun b => (Value.slice (some ⟨g, 0, none⟩) bs.length cap).ownBlock = some b) (.inr rfl) _ _ (Kept.refl _ _), fun b hb => .inl hb⟩⟩
   ·have hw : IntKind.i64.wrap (k : Int) = k := by rw [IntKind.wrap_i64]; omega
    have hneg : ¬ ((k : Int) < 0) := by omega
    have hk0 : ¬ k = 0 := by omega
    have h48i : ¬ (281474976710656 < (k : Int) * (i0.bytes : Int)) := by rw [hz2]; omega
    have hle : bs.length + k ≤ cap := by omega
    simp [Builtin.append_, run_underlying Tryz.underlying24, run_underlying Tryz.underlying3, Go.sizeOf, typeInfo, zeroValue, hi, hz0, hz1, asInt, asIntOf, hw, hneg, hk0, h48i, hle, zeroCells_one, addr_add, Value.cells, hst]
   ·refine ⟨by simp [vals], .inr ⟨g, cap, _, by simp, Nat.zero_le _, hB2, by simp; omega, hcm, ?_, ?_⟩⟩
    ·rw [List.size_toArray, lay_length _ _ _ (by simp [hlen]; omega), hlen, Nat.mul_one]
    ·simp only [Nat.mul_one, List.length_append, List.length_replicate]
     unfold lay
     rw [← List.append_assoc, List.take_append_of_le_length (by simp [hlen]; omega), htk, List.take_of_length_le (by simp [vals_length])]
     simp [vals]
theorem run_app_full {ty : TypeId} {w : World} {g off g2 off2 c2 : Nat} {bs ys : List Int} (hv : Rd .u8 w (.slice (some ⟨g, off, none⟩) bs.length bs.length) bs) (hx : Rd .u8 w (.slice (some ⟨g2, off2, none⟩) ys.length c2) ys) (h0 : 0 < bs.length) (h1 : 0 < ys.length) (hl : bs.length + ys.length ≤ 1048576) :
  ∃ a n c w', (Builtin.append_ #[24, 24] ty #[.slice (some ⟨g, off, none⟩) bs.length bs.length, .slice (some ⟨g2, off2, none⟩) ys.length c2]).run Tryz.prog w = .ok (.slice a n c) w' ∧ Own 0 5 .u8 w' (.slice a n c) (bs ++ ys) ∧ (∀ b, (Value.slice a n c).ownBlock = some b → w.heap.size ≤ b) ∧ Same w w' := by
 obtain ⟨i0, hi, hz0, hz1, hz2⟩ := info_parts Tryz.infoByte'
 have cells : ∀ {b o c : Nat} {zs : List Int} (h : Rd .u8 w (.slice (some ⟨b, o, none⟩) zs.length c) zs) (hz : 0 < zs.length), ∀ j u, (vals .u8 zs)[j]? = some u → w.cell? ((⟨b, o, none⟩ : Addr).add j) = some u := fun {b o c zs} h hz => by
  rcases h.2 with ⟨rfl, _⟩ | ⟨b', o', c', he, _, hc⟩
  ·simp at hz
  ·injection he with he1
   injection he1 with he1
   injection he1 with e1 e2
   subst e1 e2
   exact news_of hc
 have hold : (Builtin.firstCells i0.size bs.length (.slice (some ⟨g, off, none⟩) bs.length bs.length)).run Tryz.prog w.drew = .ok (vals .u8 bs).toArray w.drew := by rw [hz1]; exact run_firstCells_some (P := Tryz.prog) (w := w.drew) 1 bs.length ⟨g, off, none⟩ bs.length bs.length (vals .u8 bs) (by simp [vals_length]) (cells hv h0)
 have hs := Src.ofSlice (P := Tryz.prog) (w := w) (size := i0.size) Tryz.underlying24 ⟨g2, off2, none⟩ ys.length c2 (vals .u8 ys) (by rw [hz1]; simp [vals_length]) (cells hx h1) vals_one
 have h := run_append_grow_src (P := Tryz.prog) (w := w) 24 24 ty 5 i0 (.int .u8 0) Tryz.underlying24 hi hz0 (some ⟨g, off, none⟩) bs.length bs.length (vals .u8 bs) hold _ ys.length (vals .u8 ys) hs (by omega) (by omega) (by rw [hz2]; have := nextslicecap_le (need := bs.length + ys.length) (old := bs.length) (by omega); omega)
 have hge := grownCap_ge w (bs.length + ys.length) bs.length 5
 have hle := grownCap_le_maxLen w (bs.length + ys.length) bs.length 5 (by unfold maxLen; omega)
 rw [show (Value.int .u8 0).cells = #[.int .u8 0] from rfl, zeroCells_one] at h
 refine ⟨_, _, _, _, h, ⟨by simp [vals], .inr ⟨w.heap.size, grownCap w (bs.length + ys.length) bs.length 5, _, by simp, Nat.zero_le _, heap_alloc_new w.drew _, by simpa using hge, hle, ?_, ?_⟩⟩, fun b hb => ?_, (Kept.refl _ _).drew.alloc _⟩
 ·simp [vals_length]
  omega
 ·simp only [Nat.mul_one, List.length_append]
  rw [List.append_toArray, List.toList_toArray, List.take_append_of_le_length (by simp [vals_length]), List.take_of_length_le (by simp [vals_length])]
  simp [vals]
 ·have : w.heap.size = b := by simpa [Value.ownBlock] using hb
  omega
theorem wpList_app_full {w : World} {ops : Array Oper} {rest : List Oper} {o : Oper} {a : Act} {Q : Exit → Act → World → Prop} (hgd : o.guard = none) (s x : Operand)
  (ho : o.op = .call { callee := .builtin .append, args := #[s, x], argTypes := #[24, 24] })
  {g off g2 off2 c2 : Nat} {bs ys : List Int} (hs : a.eval s = .slice (some ⟨g, off, none⟩) bs.length bs.length) (hx' : a.eval x = .slice (some ⟨g2, off2, none⟩) ys.length c2)
  (hv : Rd .u8 w (.slice (some ⟨g, off, none⟩) bs.length bs.length) bs) (hx : Rd .u8 w (.slice (some ⟨g2, off2, none⟩) ys.length c2) ys) (h0 : 0 < bs.length) (h1 : 0 < ys.length) (hl : bs.length + ys.length ≤ 1048576)
  (h : ∀ a' n' c' w', Own 0 5 .u8 w' (.slice a' n' c') (bs ++ ys) → (∀ b, (Value.slice a' n' c').ownBlock = some b → w.heap.size ≤ b) → Same w w' → wpList Tryz.prog ops Q rest (a.put o.dst (.slice a' n' c')) w') : wpList Tryz.prog ops Q (o :: rest) a w :=
 wpList_plain hgd fun K hK => by
  obtain ⟨a', n', c', w', hr, h2, h3, h4⟩ := run_app_full (ty := o.type) hv hx h0 h1 hl
  unfold Oper.wp execOp
  simp only [ho, resolve, invoke, builtin, Sem.run_bind, Sem.run_pure, Result.andThen_ok, List.map_toArray, List.map_cons, List.map_nil, hs, hx', hr]
  exact hK _ _ (h a' n' c' w' h2 h3 h4)
theorem wpList_app_zeros {w : World} {ops : Array Oper} {rest : List Oper} {o : Oper} {a : Act} {Q : Exit → Act → World → Prop} (hgd : o.guard = none) (s x : Operand)
  (ho : o.op = .call { callee := .builtin .append, args := #[s, x], argTypes := #[24, 3] })
  (v : Value) (bs : List Int) (k : Nat) (hs : a.eval s = v) (hx : a.eval x = .int .i64 k) (hk : 0 < k) (hown : Own 0 5 .u8 w v bs) (hl : bs.length + k ≤ 1048576)
  (h : ∀ a' n' c' w', Own 0 5 .u8 w' (.slice a' n' c') (bs ++ List.replicate k 0) → Grew w v w' (.slice a' n' c') → wpList Tryz.prog ops Q rest (a.put o.dst (.slice a' n' c')) w') : wpList Tryz.prog ops Q (o :: rest) a w :=
 wpList_plain hgd fun K hK => by
  obtain ⟨a', n', c', w', hr, h2, h3⟩ := run_app_zeros (ty := o.type) k hk hown hl
  unfold Oper.wp execOp
  simp only [ho, resolve, invoke, builtin, Sem.run_bind, Sem.run_pure, Result.andThen_ok, List.map_toArray, List.map_cons, List.map_nil, hs, hx, hr]
  exact hK _ _ (h a' n' c' w' h2 h3)
theorem numB8 (x : Int) (h0 : 0 ≤ x) (h1 : x ≤ 9223372036854775807) : numB x 8 = lows x 8 := by
 unfold numB
 rw [if_neg]
 ·rfl
 ·rintro (h | h | h | h)
  ·omega
  ·omega
  ·omega
  ·apply h
   rw [show (8 : Int).toNat = 8 from rfl, show (256 : Int) ^ 8 = 18446744073709551616 from rfl]
   omega
theorem numB4' (x : Int) (h0 : 0 ≤ x) (h1 : x ≤ 4294967295) : numB x 4 = lows x 4 := by
 unfold numB
 rw [if_neg]
 ·rfl
 ·rintro (h | h | h | h)
  ·omega
  ·omega
  ·omega
  ·apply h
   rw [show (4 : Int).toNat = 4 from rfl, show (256 : Int) ^ 4 = 4294967296 from rfl]
   omega
theorem l4Put_first (g : Nat) (bs : List Int) (x n : Int) (w : World) (hx : IsI x) (hn : IsI n) (h0 : 0 < bs.length) (h1 : 0 < (numB x n).length) (hl : bs.length ≤ 1000) (hv : Rd .u8 w (.slice (some ⟨g, 0, none⟩) bs.length bs.length) bs) :
  Calls Tryz.prog 34 #[.slice (some ⟨g, 0, none⟩) bs.length bs.length, .int .i64 x, .int .i64 n] w fun e w' => ∃ aa nn cc, e = .returned (.slice aa nn cc) ∧ Own 0 5 .u8 w' (.slice aa nn cc) (bs ++ numB x n) ∧ (∀ b, (Value.slice aa nn cc).ownBlock = some b → w.heap.size ≤ b) ∧ Same w w' := by
 have hP := specPut_any x n w hx hn
 have hnl := numB_length x n
 have HV := (show Hid (Rd .u8 w (.slice (some ⟨g, 0, none⟩) bs.length bs.length) bs) from hv)
 clear hv
 go_enter Tryz.func34, Tryz.ntmps34
 go_wp2_with (first
  | (go_at_call 37; refine hP.mono ?_; rintro e w1 ⟨a1, c1, rfl, hf1, ho1, hk1⟩; obtain ⟨g1, o1, rfl, _⟩ := rd_some ho1.rd h1; have HR1 := (show Hid (Rd .u8 w1 (.slice (some ⟨g1, o1, none⟩) (numB x n).length c1) (numB x n)) from ho1.rd); have HK1 := (show Hid (Same w w1) from hk1); clear hf1 ho1 hk1)
  | (at_builtin; refine wpList_app_full rfl (.tmp 7) (.tmp 10) rfl rfl rfl (HV.out.same HK1.out) HR1.out h0 h1 (by omega) ?_; intro a2 n2 c2 w2 hown2 hf2 hk2; have HF := (show Hid (Own 0 5 .u8 w2 (.slice a2 n2 c2) (bs ++ numB x n)) from hown2); have HF2 := (show Hid (∀ b, (Value.slice a2 n2 c2).ownBlock = some b → w.heap.size ≤ b) from fun b hb => Nat.le_trans HK1.out.size (hf2 b hb)); have HK := (show Hid (Same w w2) from HK1.out.trans hk2); clear hown2 hk2 hf2))
 go_ret
 exact ⟨a2, n2, c2, rfl, HF.out, HF2.out, HK.out⟩
structure OutS (w wx : World) (s e c l : Int) (v : Value) (A : List Int) : Prop where
 box : Blk wx w.heap.size 38 [.int .i64 s, .int .i64 e, .int .i64 c, .int .i64 l]
 own : Own 0 5 .u8 wx v A
 fresh : ∀ b, v.ownBlock = some b → w.heap.size < b
 same : Same w wx
theorem OutS.on {w wx wy : World} {s e c l : Int} {v : Value} {A : List Int} (h : OutS w wx s e c l v A) (hk : Same wx wy) : OutS w wy s e c l v A := ⟨h.box.same hk, h.own.same hk, h.fresh, h.same.trans hk⟩
theorem OutS.next {w wx wy : World} {s e c l : Int} {v v' : Value} {A A' : List Int} (h : OutS w wx s e c l v A) (hg : Grew wx v wy v') (ho : Own 0 5 .u8 wy v' A') : OutS w wy s e c l v' A' :=
 ⟨h.box.kept hg.kept (fun hb => by have := h.fresh _ hb; omega), ho, fun b hb => (hg.own b hb).elim (fun h1 => h.fresh b h1) (fun h1 => Nat.lt_of_lt_of_le h.box.lt h1), hg.same h.same (fun b hb => Nat.le_of_lt (h.fresh b hb))⟩
theorem specEM_any (s e c l : Int) (w : World) :
  Calls Tryz.prog 13 #[.agg #[.int .i64 s, .int .i64 e, .int .i64 c, .int .i64 l]] w fun ex w' => ∃ a c', ex = .returned (.slice a (encM s e c l).length c') ∧ (∀ b, (Value.slice a (encM s e c l).length c').ownBlock = some b → w.heap.size ≤ b) ∧
   Own 0 5 .u8 w' (.slice a (encM s e c l).length c') (encM s e c l) ∧ Same w w' := by
 have HK0 := hid (sameA w [.int .i64 s, .int .i64 e, .int .i64 c, .int .i64 l] 38)
 have k1 := specMF_any s e c l (w.alloc (.cells #[.int .i64 s, .int .i64 e, .int .i64 c, .int .i64 l] 38))
 have b0 := Blk.new w #[.int .i64 s, .int .i64 e, .int .i64 c, .int .i64 l] 38
 by_cases hg : mF s e c l = 0
 ·rw [hg] at k1
  rw [encM_yes hg, mB_length]
  obtain ⟨⟨hs1, hs2⟩, ⟨he1, he2⟩, hl1, hl2, hc2⟩ := mF_good hg
  clear hg
  go_enter Tryz.func13, Tryz.ntmps13
  go_wp2_with (go_at_call 33; (with_reducible refine k1.mono ?_); rintro ex w1 ⟨rfl, hk1⟩; have b1 := b0.same hk1; have HK1 := (show Hid (Same w w1) from HK0.out.trans hk1); clear hk1 b0 HK0)
  let Y1 : World → Prop := fun wx : World => wx.cell? ⟨w.heap.size, 0, none⟩ = some (.int .i64 s) ∧ wx.cell? ⟨w.heap.size, 1, none⟩ = some (.int .i64 e)
  have hS : Y1 w1.drew := ⟨b1.drew.cell 0, b1.drew.cell 1⟩
  refine wp_region_V Y1 99 9 rfl (by kernel_rfl) ?_
  refine tk 2 10 hS ?_
  refine tk 3 11 hS ?_
  refine tk 5 13 hS ?_
  refine tk 6 14 hS ?_
  refine wpAnyV_one (i := 0) (by kernel_rfl) rfl (fun K hK => ?_)
  go_simp
  have hS : Y1 (w1.alloc (.cells #[.int .u8 104, .int .u8 101, .int .u8 97, .int .u8 112] 5)).drew := ⟨(b1.same ((Kept.refl _ _).alloc _)).drew.cell 0, (b1.same ((Kept.refl _ _).alloc _)).drew.cell 1⟩
  refine hK.out _ _ (fun _ => hS) ?_
  clear hK K
  try simp only [Act.put, sA, s0, sS]
  have hcv : (convert 24 24 (.slice (some ⟨w1.heap.size, 0, none⟩) 4 4)).run Tryz.prog (w1.alloc (.cells #[.int .u8 104, .int .u8 101, .int .u8 97, .int .u8 112] 5)).drew = .ok (.slice (some ⟨w1.heap.size, 0, none⟩) 4 4) (w1.alloc (.cells #[.int .u8 104, .int .u8 101, .int .u8 97, .int .u8 112] 5 (4, 5))).drew := Go.Joins.run_convert_bytes_const_at w1.drew 24 5 #[.int .u8 104, .int .u8 101, .int .u8 97, .int .u8 112] 4 4 w1.heap.size rfl Tryz.underlying24 Tryz.underlying5
  refine wpAnyV_one (i := 1) (by kernel_rfl) rfl (fun K hK => ?_)
  go_simp
  clear hcv
  have hk2 : Same w1 (w1.alloc (.cells #[.int .u8 104, .int .u8 101, .int .u8 97, .int .u8 112] 5 (4, 5))).drew := ((Kept.refl _ _).alloc _).drew
  have hrd : Rd .u8 (w1.alloc (.cells #[.int .u8 104, .int .u8 101, .int .u8 97, .int .u8 112] 5 (4, 5))).drew (.slice (some ⟨w1.heap.size, 0, none⟩) hp4.length hp4.length) hp4 := by
   refine ⟨by decide, .inr ⟨w1.heap.size, 0, 4, rfl, by decide, fun i hi => ?_⟩⟩
   have hi : i < 4 := hi
   have hh := World.cell?_alloc_mark w1.drew #[.int .u8 104, .int .u8 101, .int .u8 97, .int .u8 112] 5 (4, 5) (0 + i)
   refine hh.trans ?_
   match i, hi with
   | 0, _ => rfl
   | 1, _ => rfl
   | 2, _ => rfl
   | 3, _ => rfl
  have b2 := b1.same hk2
  have HK2 := hid (HK1.out.trans hk2)
  obtain ⟨w2, hw2⟩ : ∃ w2, (w1.alloc (.cells #[.int .u8 104, .int .u8 101, .int .u8 97, .int .u8 112] 5 (4, 5))).drew = w2 := ⟨_, rfl⟩
  rw [hw2] at b2 HK2 hrd ⊢
  have hz2 := b2.lt
  clear hw2 hk2 HK1 b1
  have hS : Y1 w2 := ⟨b2.cell 0, b2.cell 1⟩
  refine hK.out _ _ (fun _ => hS) ?_
  clear hK K
  try simp only [Act.put, sA, s0, sS]
  refine wpAnyV_one (i := 4) (by kernel_rfl) rfl (fun K hK => ?_)
  go_simp
  have hq := l4Put_first w1.heap.size hp4 s 8 w2 (by unfold IsI; omega) (by unfold IsI; omega) (by decide) (by rw [numB8 s (by omega) (by omega), lows_length]; decide) (by decide) hrd
  refine hq.mono ?_
  rintro ex w3 ⟨a3, n3, c3, rfl, hown, hfr, hk3⟩
  rw [numB8 s (by omega) (by omega)] at hown
  have HO3 := (show Hid (OutS w w3 s e c l (.slice a3 n3 c3) (hp4 ++ lows s 8)) from ⟨b2.same hk3, hown, fun b hb => by have := hfr b hb; omega, HK2.out.trans hk3⟩)
  have hS : Y1 w3 := ⟨HO3.out.box.cell 0, HO3.out.box.cell 1⟩
  clear hq hown hfr hk3 hrd b2 HK2
  refine hK.out _ _ (fun _ => hS) ?_
  clear hK K
  try simp only [Act.put, sA, s0, sS]
  refine wpAnyV_one (i := 7) (by kernel_rfl) rfl (fun K hK => ?_)
  go_simp
  refine (l4Put_own _ (hp4 ++ lows s 8) e 4 _ (by unfold IsI; omega) (by unfold IsI; omega) (by simp [hp4, lows_length]) HO3.out.own).mono ?_
  rintro ex w4 ⟨a4, n4, c4, rfl, hown, hgr⟩
  rw [numB4' e (by omega) (by omega)] at hown
  have HO4 := (show Hid (OutS w w4 s e c l (.slice a4 n4 c4) (hp4 ++ lows s 8 ++ lows e 4)) from HO3.out.next hgr hown)
  have hS : Y1 w4 := ⟨HO4.out.box.cell 0, HO4.out.box.cell 1⟩
  clear hown hgr HO3
  refine hK.out _ _ (fun _ => hS) ?_
  clear hK K
  try simp only [Act.put, sA, s0, sS]
  refine wpAnyV_one (i := 8) (by kernel_rfl) rfl (fun K hK => ?_)
  go_simp
  refine hK.out _ _ (fun _ => hS) ?_
  clear hK K
  refine wpAnyV_done (by kernel_rfl) ?_
  try simp only [Act.put, sA, s0, sS]
  go_wp2_with fail
  let Y2 : World → Prop := fun wx : World => wx.cell? ⟨w.heap.size, 2, none⟩ = some (.int .i64 c) ∧ wx.cell? ⟨w.heap.size, 3, none⟩ = some (.int .i64 l)
  have hS : Y2 w4.drew := ⟨(HO4.out.on (Kept.refl _ _).drew).box.cell 2, (HO4.out.on (Kept.refl _ _).drew).box.cell 3⟩
  have HO5 := (show Hid (OutS w w4.drew s e c l (.slice a4 n4 c4) (hp4 ++ lows s 8 ++ lows e 4)) from HO4.out.on (Kept.refl _ _).drew)
  clear HO4
  refine wp_region_V Y2 99 8 rfl (by kernel_rfl) ?_
  refine tk 0 16 hS ?_
  refine tk 1 17 hS ?_
  refine tk 2 18 hS ?_
  refine tk 4 20 hS ?_
  refine tk 5 21 hS ?_
  refine wpAnyV_one (i := 3) (by kernel_rfl) rfl (fun K hK => ?_)
  go_simp
  refine (l4Put_own _ (hp4 ++ lows s 8 ++ lows e 4) c 8 _ (by unfold IsI; omega) (by unfold IsI; omega) (by simp [hp4, lows_length]) HO5.out.own).mono ?_
  rintro ex w6 ⟨a6, n6, c6, rfl, hown, hgr⟩
  rw [numB8 c (by omega) (by omega)] at hown
  have HO6 := (show Hid (OutS w w6 s e c l (.slice a6 n6 c6) (hp4 ++ lows s 8 ++ lows e 4 ++ lows c 8)) from HO5.out.next hgr hown)
  have hS : Y2 w6 := ⟨HO6.out.box.cell 2, HO6.out.box.cell 3⟩
  clear hown hgr HO5
  refine hK.out _ _ (fun _ => hS) ?_
  clear hK K
  try simp only [Act.put, sA, s0, sS]
  refine wpAnyV_one (i := 6) (by kernel_rfl) rfl (fun K hK => ?_)
  go_simp
  refine (l4Put_own _ (hp4 ++ lows s 8 ++ lows e 4 ++ lows c 8) l 8 _ (by unfold IsI; omega) (by unfold IsI; omega) (by simp [hp4, lows_length]) HO6.out.own).mono ?_
  rintro ex w7 ⟨a7, n7, c7, rfl, hown, hgr⟩
  rw [numB8 l (by omega) (by omega)] at hown
  have HO7 := (show Hid (OutS w w7 s e c l (.slice a7 n7 c7) (hp4 ++ lows s 8 ++ lows e 4 ++ lows c 8 ++ lows l 8)) from HO6.out.next hgr hown)
  have hS : Y2 w7 := ⟨HO7.out.box.cell 2, HO7.out.box.cell 3⟩
  clear hown hgr HO6
  refine hK.out _ _ (fun _ => hS) ?_
  clear hK K
  try simp only [Act.put, sA, s0, sS]
  refine wpAnyV_one (i := 7) (by kernel_rfl) rfl (fun K hK => ?_)
  go_simp
  refine hK.out _ _ (fun _ => hS) ?_
  clear hK K
  refine wpAnyV_done (by kernel_rfl) ?_
  try simp only [Act.put, sA, s0, sS]
  have HH := (show Hid (OutS w w7 s e c l (.slice a7 n7 c7) (mH s e c l)) from HO7.out)
  clear HO7 hS
  obtain rfl : n7 = 32 := by obtain ⟨_, _, he⟩ := HH.out.own.rd.form; injection he
  have kc := specCrc_any (.slice a7 32 c7) (mH s e c l) w7 (mH_isB s e c l) (by rw [mH_length]; decide) HH.out.own.rd
  have hcr := crcOn_le 0 (mH s e c l) (by decide) (by decide) (mH_isB s e c l)
  go_wp2_with fail
  refine kc.mono ?_
  rintro ex w8 ⟨rfl, hk8⟩
  have HH8 := (show Hid (OutS w w8 s e c l (.slice a7 32 c7) (mH s e c l)) from HH.out.on hk8)
  clear kc hk8 HH
  go_wp2_with fail
  refine (l4Put_own _ (mH s e c l) (crcOn 0 (mH s e c l)) 4 _ (by unfold IsI; omega) (by unfold IsI; omega) (by rw [mH_length]; decide) HH8.out.own).mono ?_
  rintro ex w9 ⟨a9, n9, c9, rfl, hown, hgr⟩
  rw [numB4' _ hcr.1 hcr.2] at hown
  have HO9 := (show Hid (OutS w w9 s e c l (.slice a9 n9 c9) (mH s e c l ++ lows (crcOn 0 (mH s e c l)) 4)) from HH8.out.next hgr hown)
  clear hown hgr HH8
  obtain rfl : n9 = 36 := by obtain ⟨_, _, he⟩ := HO9.out.own.rd.form; injection he
  go_wp2_with (at_builtin; refine wpList_app_zeros rfl (.tmp 27) (.tmp 30) rfl (.slice a9 36 c9) (mH s e c l ++ lows (crcOn 0 (mH s e c l)) 4) 476 rfl rfl (by decide) HO9.out.own (by rw [List.length_append, mH_length, lows_length]; decide) ?_; intro a10 n10 c10 w10 hown hgr; have HO10 := (show Hid (OutS w w10 s e c l (.slice a10 n10 c10) (mB s e c l)) from HO9.out.next hgr hown); clear hown hgr)
  go_ret
  obtain rfl : n10 = 512 := by obtain ⟨_, _, he⟩ := HO10.out.own.rd.form; injection he
  exact ⟨a10, c10, rfl, fun b hb => Nat.le_of_lt (HO10.out.fresh b hb), HO10.out.own, HO10.out.same⟩
 ·rw [encM_no hg]
  have hg' : ¬ mF s e c l = 0 := hg
  go_enter Tryz.func13, Tryz.ntmps13
  go_wp2_with (go_at_call 33; (with_reducible refine k1.mono ?_); rintro ex w1 ⟨rfl, hk1⟩; have HK1 := (show Hid (Same w w1) from HK0.out.trans hk1); clear hk1)
  go_ret
  refine ⟨_, _, rfl, fun b hb => ?_, Own.empty _ _, HK1.out.alloc _⟩
  have : w1.heap.size = b := by simpa [Value.ownBlock] using hb
  have := HK1.out.size
  omega
theorem specFmt_any (p f l : Int) (w : World) : Calls Tryz.prog 4 #[.agg #[.int .i64 p, .int .i64 f, .int .i64 l]] w fun e w' => ∃ a n c, e = .returned (.agg #[.slice a n c, .slice none 0 0]) ∧ OwnD 0 82 5 w' (.slice a n c) (.slice none 0 0) (fmtD p f l) [] ∧ (∀ b, (Value.slice a n c).ownBlock = some b → w.heap.size ≤ b) ∧ Same w w' := by
 have HK0 := (show Hid (∀ o o2, Same w ((w.alloc o).alloc o2)) from fun _ _ => ((Kept.refl _ _).alloc _).alloc _)
 by_cases hq : geoF p f l = 0
 case neg =>
  have HD := (show Hid (fmtD p f l = []) from if_neg hq)
  have hq2 : (geoF p f l != 0) = true := bne_iff_ne.2 hq
  have b1 := (Blk.newB w [.int .i64 p, .int .i64 f, .int .i64 l] 29 [.slice none 0 0, .slice none 0 0] 27)
  go_enter Tryz.func4, Tryz.ntmps4
  go_wp2_with fail
  refine (specGeo_any p f l _).mono ?_
  rintro e w1 ⟨rfl, hk⟩
  have HK1 := hid ((HK0.out _ _).trans hk)
  have b2 := b1.same hk
  obtain ⟨c0, c1⟩ := b2.all2
  have fb := b2.frozen
  clear b1 hk
  have HKZ := (show Hid (∀ u v, Same w ((w1.setCell ⟨w.heap.size + 1, 0, none⟩ u).setCell ⟨w.heap.size + 1, 1, none⟩ v)) from fun _ _ => (HK1.out.setCell (.inl (by simp)) _).setCell (.inl (by simp)) _)
  go_wp2_with fail
  refine bodyPost_ret (v := .agg #[.slice none 0 0, .slice none 0 0]) (by simp [results, Tryz.results4, go_sem, c0, c1]) rfl ⟨none, 0, 0, rfl, ⟨?_, OwnP.nil _ _ _ _, fun b hb => by simp [Value.ownBlock]⟩, fun b hb => by simp [Value.ownBlock] at hb, by first | exact HK1.out | exact HKZ.out _ _⟩
  rw [HD.out]; exact Own.nil _ _ _ _
 obtain ⟨g1, g2, g3, g4⟩ := geo_good hq
 obtain ⟨P, rfl⟩ : ∃ P : Nat, p = P := ⟨p.toNat, by omega⟩
 obtain ⟨n, hn⟩ : ∃ n : Nat, (2 + l + (P : Int) * 8).toNat * 512 = n := ⟨_, rfl⟩
 have hnb : 1024 + 72 < n ∧ n ≤ 524288 := by omega
 have HD := (show Hid (fmtD P f l = fmtP l (layI (layI (List.replicate n 0) 0 (encM 1 1 512 512)) 1024 ckB) P) from by unfold Hid fmtD; rw [if_pos hq, hn, Int.toNat_natCast])
 have kN := fun wx => specNewDisk_yes (2 + l + (P : Int) * 8) wx (by omega) (by omega)
 rw [hn] at kN
 have kG := fun wx => specGeo_any P f l wx
 have kD := fun wx => specDskN_any P f l wx
 rw [hq] at kG
 rw [show dskN P f l = 2 + l + (P : Int) * 8 from if_pos hq] at kD
 have HN := (show Hid ((2 + l + (P : Int) * 8).toNat * 512 = n) from hn)
 have HQ := hid hq
 clear hq hn
 have b0 := (Blk.newL w [.int .i64 (P : Int), .int .i64 f, .int .i64 l] 29).same ((Kept.refl (fun _ => False) _).alloc (.cells #[.slice none 0 0, .slice none 0 0] 27))
 have b1 := (Blk.newB w [.int .i64 (P : Int), .int .i64 f, .int .i64 l] 29 [.slice none 0 0, .slice none 0 0] 27)
 go_enter Tryz.func4, Tryz.ntmps4
 go_wp2_with fail
 refine (kG _).mono ?_
 rintro e w1 ⟨rfl, hk⟩
 have HK1 := hid ((HK0.out _ _).trans hk)
 have b0 := b0.same hk
 have b1 := b1.same hk
 obtain ⟨c0, c1, c2⟩ := b0.all3
 clear hk kG HK0
 go_wp2_with fail
 refine (kD _).mono ?_
 rintro e w2 ⟨rfl, hk⟩
 have HK2 := hid (HK1.out.trans hk)
 have b0 := b0.same hk
 have b1 := b1.same hk
 clear hk kD
 go_wp2_with fail
 refine (kN _).mono ?_
 rintro e w3 ⟨g, rfl, hg, ho, hk⟩
 have hz2 := HK2.out.size
 have hb1 := b1.lt
 have hb3 := ho.lt g rfl
 have HI3 := (show Hid (FmI w (w3.alloc (.cells #[.slice (some ⟨g, 0, none⟩) n n, .slice none 0 0] 27)) w.heap.size (w.heap.size + 1) w3.heap.size g n P f l (List.replicate n 0)) from ⟨(b0.same hk).same ((Kept.refl _ _).alloc _), (b1.same hk).same ((Kept.refl _ _).alloc _), Blk.newL _ _ _, ho.same ((Kept.refl _ _).alloc _), List.length_replicate.symm, ⟨by omega, by omega, by omega, by omega, by omega⟩, (HK2.out.trans hk).alloc _⟩)
 clear hk hg ho b0 b1 c0 c1 c2 kN hz2 hb1 hb3 HK1 HK2
 go_upto_region 4 with fail
 generalize w3.alloc (.cells #[.slice (some ⟨g, 0, none⟩) n n, .slice none 0 0] 27) = w4 at HI3 ⊢
 generalize w3.heap.size = D at HI3 ⊢
 generalize w.heap.size + 1 = Z at HI3 ⊢
 generalize hG : w.heap.size = G at HI3 ⊢
 clear hG
 have hn1 : (1024 : Int) ≤ (n : Int) := by omega
 have hn2 : ¬ n = 1024 := by omega
 have hn0 : ¬ n = 0 := by omega
 have q1024 : IntKind.i64.wrap 1024 = 1024 := by rw [IntKind.wrap_i64]; omega
 refine wp_region_V (fun wx : World => wx.cell? ⟨D, 0, none⟩ = some (.slice (some ⟨g, 0, none⟩) n n)) 99 5 rfl (by kernel_rfl) ?_
 have HI4 := hid (HI3.out.same (Kept.refl (fun _ => False) _).drew)
 generalize w4.drew = u1 at HI4 ⊢
 have hS : (fun wx : World => wx.cell? ⟨D, 0, none⟩ = some (.slice (some ⟨g, 0, none⟩) n n)) u1 := HI4.out.box.cell 0
 refine tk 0 14 hS ?_
 refine tk 1 15 hS ?_
 refine tk 2 16 hS ?_
 refine wpAnyV_one (i := 3) (by kernel_rfl) rfl (fun K hK => ?_)
 go_simp
 refine (specEM_any 1 1 512 512 _).mono ?_
 rintro e u2 ⟨a, c, rfl, hf, ho, hk⟩
 have HI5 := hid (HI4.out.same hk)
 have HR5 := hid ho.rd
 clear hf ho
 clear hk hS
 have hS : (fun wx : World => wx.cell? ⟨D, 0, none⟩ = some (.slice (some ⟨g, 0, none⟩) n n)) u2 := HI5.out.box.cell 0
 go_wp2_with fail
 refine hK.out _ _ (fun _ => hS) ?_
 clear hK K
 try simp only [Act.put, sA, s0, sS]
 have hcp := HI5.out.copy 0 (encM 1 1 512 512) _ (by rw [encM1_len]; omega) (by omega) HR5.out
 have HI6 := hid (HI5.out.lay 0 (encM 1 1 512 512) (by rw [encM1_len]; omega))
 simp only [Nat.sub_zero] at hcp
 refine wpAnyV_one (i := 4) (by kernel_rfl) rfl (fun K hK => ?_)
 go_simp
 clear hS
 have hS : (fun wx : World => wx.cell? ⟨D, 0, none⟩ = some (.slice (some ⟨g, 0, none⟩) n n)) (u2.setCells g 0 (vals .u8 (encM 1 1 512 512))) := HI6.out.box.cell 0
 refine hK.out _ _ (fun _ => hS) ?_
 clear hK K hcp hS
 try simp only [Act.put, sA, s0, sS]
 refine wpAnyV_done (by kernel_rfl) ?_
 generalize u2.setCells g 0 (vals .u8 (encM 1 1 512 512)) = u3 at HI6 ⊢
 clear HI3 HI4 HI5 HR5
 go_wp2_with fail
 refine (specFrame_bg _).mono ?_
 rintro e f1 ⟨a1, c1, rfl, hf1, ho1, hk1⟩
 rw [fr_bg] at hf1 ho1 ⊢
 have HO1 := hid ho1
 have HF1 := hid hf1
 have HK1 := (show Hid (Same u3 f1) from hk1)
 clear ho1 hf1 hk1
 go_wp2_with fail
 refine (specFrame_tb _).mono ?_
 rintro e f2 ⟨a2, c2, rfl, hf2, ho2, hk2⟩
 rw [fr_tb] at ho2 ⊢
 have HR2 := hid ho2.rd
 have HO2 := hid (HO1.out.same hk2)
 have HK2 := hid (HK1.out.trans hk2)
 clear ho2 hf2 hk2 HO1
 go_wp2_with (at_builtin; refine wpList_app rfl (.tmp 21) (.tmp 26) rfl (.slice a1 33 c1) (.slice a2 39 c2) (frFd 512 1 bgR.dat) (frFd 545 1 tbR.dat) rfl rfl HO2.out HR2.out (by rw [fr_bg, fr_tb]; omega) ?_; intro a3 n3 c3 w6 hown hgr; have HO6 := (show Hid (Own 0 5 .u8 w6 (.slice a3 n3 c3) ckB) from hown); have HK6 := (show Hid (Same u3 w6) from hgr.same HK2.out HF1.out); have HN6 := (show Hid (n3 = ckB.length) from hown.caps.1); clear hown hgr HO2 HR2 HF1 HK1 HK2)
 have HI7 := hid (HI6.out.same HK6.out)
 have HR7 := hid HO6.out.rd
 have hn6 := HN6.out
 subst hn6
 clear HI6 HO6 HK6 HN6
 go_upto_region 7 with fail
 have kP := fun wx => specPlace_any l 512 wx
 rw [show logPlace l 512 = 2 from by rw [logPlace_yes (by omega)]; simp] at kP
 let Y1 : World → Prop := fun wx : World => wx.cell? ⟨D, 0, none⟩ = some (.slice (some ⟨g, 0, none⟩) n n) ∧ wx.cell? ⟨G, 0, none⟩ = some (.int .i64 (P : Int)) ∧ wx.cell? ⟨G, 1, none⟩ = some (.int .i64 f) ∧ wx.cell? ⟨G, 2, none⟩ = some (.int .i64 l)
 refine wp_region_V Y1 99 9 rfl (by kernel_rfl) ?_
 have HR8 := hid (HR7.out.same (Kept.refl (fun _ => False) _).drew)
 have HI8 := hid (HI7.out.same (Kept.refl (fun _ => False) _).drew)
 generalize w6.drew = v1 at HI8 HR8 ⊢
 have hS : Y1 v1 := ⟨HI8.out.box.cell 0, HI8.out.geo.cell 0, HI8.out.geo.cell 1, HI8.out.geo.cell 2⟩
 refine tk 0 28 hS ?_
 refine tk 1 29 hS ?_
 refine tk 2 30 hS ?_
 refine tk 3 31 hS ?_
 refine tk 7 35 hS ?_
 refine wpAnyV_one (i := 4) (by kernel_rfl) rfl (fun K hK => ?_)
 go_simp
 refine (kP _).mono ?_
 rintro e v2 ⟨rfl, hk⟩
 have HI9 := hid (HI8.out.same hk)
 have HR9 := hid (HR8.out.same hk)
 clear hk hS
 have hS : Y1 v2 := ⟨HI9.out.box.cell 0, HI9.out.geo.cell 0, HI9.out.geo.cell 1, HI9.out.geo.cell 2⟩
 go_wp2_with fail
 refine hK.out _ _ (fun _ => hS) ?_
 clear hK K
 try simp only [Act.put, sA, s0, sS]
 refine tkV 5 33 (.int .i64 1024) hS ?_
 refine tkV 6 34 (.slice (some ⟨g, 1024, none⟩) (n - 1024) (n - 1024)) hS ?_
 have hcp := HI9.out.copy 1024 ckB _ (by rw [ckB_len]; omega) (by omega) HR9.out
 have HI10 := hid (HI9.out.lay 1024 ckB (by rw [ckB_len]; omega))
 refine wpAnyV_one (i := 8) (by kernel_rfl) rfl (fun K hK => ?_)
 go_simp
 clear hS
 have hS : Y1 (v2.setCells g 1024 (vals .u8 ckB)) := ⟨HI10.out.box.cell 0, HI10.out.geo.cell 0, HI10.out.geo.cell 1, HI10.out.geo.cell 2⟩
 refine hK.out _ _ (fun _ => hS) ?_
 clear hK K hcp hS
 try simp only [Act.put, sA, s0, sS]
 refine wpAnyV_done (by kernel_rfl) ?_
 generalize v2.setCells g 1024 (vals .u8 ckB) = v3 at HI10 ⊢
 clear HI7 HI8 HI9 HR7 HR8 HR9 kP
 obtain ⟨X, hX⟩ : ∃ X, layI (layI (List.replicate n 0) 0 (encM 1 1 512 512)) 1024 ckB = X := ⟨_, rfl⟩
 rw [hX] at HI10 HD
 have HXL := (show Hid (n = X.length) from HI10.out.len)
 clear hX
 go_wp2_with fail
 go_loopw [6] (fun i wr => ∃ k : Nat, k ≤ P ∧ i = .int .i64 (k : Int) ∧ Hid (FmI w wr G Z D g n P f l (fmtP l X k))) (fun i _ => P - (intOf i).toNat)
 case atStart => exact ⟨0, Nat.zero_le _, rfl, HI10⟩
 case round =>
  obtain ⟨k, hk, rfl, HI⟩ := hrel
  clear HI10
  obtain ⟨c0, c1, c2⟩ := HI.out.geo.all3
  by_cases hlt : k < P
  ·have hki : (k : Int) < (P : Int) := by omega
   obtain ⟨O, hO⟩ : ∃ O : Nat, (2 + l + (k : Int) * 8).toNat * 512 = O := ⟨_, rfl⟩
   have hO1 : O + 4096 ≤ n := by have := HN.out; omega
   have hO2 : (O : Int) ≤ (n : Int) := by omega
   have hO3 : ¬ n = O := by omega
   have hOi : (2 + l + (k : Int) * 8) * 512 = (O : Int) := by omega
   have qO : IntKind.i64.wrap (O : Int) = (O : Int) := by rw [IntKind.wrap_i64]; omega
   have kS := fun wx => specPgSec_any P f l k wx
   rw [pgSec_yes HQ.out (by omega) (by omega)] at kS
   have kW := fun wx => specNew_any k wx
   have HPL := hid (pageNew_len k (by omega))
   have HSTEP := (show Hid (layI (fmtP l X k) O (pageNew (k : Int)) = fmtP l X (k + 1)) from by unfold Hid; rw [← hO]; rfl)
   clear hO
   go_upto_region 11 with fail
   clear c0 c1 c2
   refine wp_region_V Y1 99 10 rfl (by kernel_rfl) ?_
   have HI12 := hid (HI.out.same (Kept.refl (fun _ => False) _).drew)
   generalize wr.drew = u1 at HI12 ⊢
   have hS : Y1 u1 := ⟨HI12.out.box.cell 0, HI12.out.geo.cell 0, HI12.out.geo.cell 1, HI12.out.geo.cell 2⟩
   refine tk 0 43 hS ?_
   refine tk 1 44 hS ?_
   refine tk 2 45 hS ?_
   refine tk 3 46 hS ?_
   refine tk 7 50 hS ?_
   refine wpAnyV_one (i := 4) (by kernel_rfl) rfl (fun K hK => ?_)
   go_simp
   refine (kS _).mono ?_
   rintro e u2 ⟨rfl, hk⟩
   have HI13 := hid (HI12.out.same hk)
   clear hk hS
   have hS : Y1 u2 := ⟨HI13.out.box.cell 0, HI13.out.geo.cell 0, HI13.out.geo.cell 1, HI13.out.geo.cell 2⟩
   go_wp2_with fail
   refine hK.out _ _ (fun _ => hS) ?_
   clear hK K
   try simp only [Act.put, sA, s0, sS]
   refine tkV 5 48 (.int .i64 (O : Int)) hS ?_
   refine tkV 6 49 (.slice (some ⟨g, O, none⟩) (n - O) (n - O)) hS ?_
   refine wpAnyV_one (i := 8) (by kernel_rfl) rfl (fun K hK => ?_)
   go_simp
   refine (kW _).mono ?_
   rintro e u3 ⟨a, c, rfl, hf, ho, hk⟩
   have HI14 := hid (HI13.out.same hk)
   have HR14 := hid ho.rd
   clear hf ho
   clear hk hS
   have hS : Y1 u3 := ⟨HI14.out.box.cell 0, HI14.out.geo.cell 0, HI14.out.geo.cell 1, HI14.out.geo.cell 2⟩
   go_wp2_with fail
   refine hK.out _ _ (fun _ => hS) ?_
   clear hK K
   try simp only [Act.put, sA, s0, sS]
   have hcp := HI14.out.copy O (pageNew (k : Int)) _ (by rw [HPL.out]; omega) (by omega) HR14.out
   have HI15 := hid (HI14.out.lay O (pageNew (k : Int)) (by rw [HPL.out]; omega))
   refine wpAnyV_one (i := 9) (by kernel_rfl) rfl (fun K hK => ?_)
   go_simp
   clear hS
   have hS : Y1 (u3.setCells g O (vals .u8 (pageNew (k : Int)))) := ⟨HI15.out.box.cell 0, HI15.out.geo.cell 0, HI15.out.geo.cell 1, HI15.out.geo.cell 2⟩
   refine hK.out _ _ (fun _ => hS) ?_
   clear hK K hcp hS
   try simp only [Act.put, sA, s0, sS]
   refine wpAnyV_done (by kernel_rfl) ?_
   generalize u3.setCells g O (vals .u8 (pageNew (k : Int))) = u4 at HI15 ⊢
   rw [HSTEP.out] at HI15
   clear HI HI12 HI13 HI14 HR14 kS kW
   go_wp2_with fail
   go_roundw
   case rel => exact ⟨k + 1, by omega, by go_num, HI15⟩
   case measure => simp [intOf]; omega
  ·have hge : ¬ (k : Int) < (P : Int) := by omega
   obtain rfl : k = P := by omega
   obtain ⟨d0, d1⟩ := HI.out.box.all2
   obtain ⟨z0, z1⟩ := HI.out.res.all2
   have fz := HI.out.res.frozen
   have hkz : Kept (fun b => b = Z) wr ((wr.setCell ⟨Z, 0, none⟩ (.slice (some ⟨g, 0, none⟩) n n)).setCell ⟨Z, 1, none⟩ (.slice none 0 0)) := ((Kept.refl (fun b => b = Z) wr).setCell (p := ⟨Z, 0, none⟩) (.inr rfl) _).setCell (p := ⟨Z, 1, none⟩) (.inr rfl) _
   have HOZ := hid (HI.out.own.kept hkz (fun b hb e => by simp only [Value.ownBlock] at hb; have := Option.some.inj hb; exact HI.out.fr.2.2.1 (this.trans e)))
   have HKZ := (show Hid (Same w ((wr.setCell ⟨Z, 0, none⟩ (.slice (some ⟨g, 0, none⟩) n n)).setCell ⟨Z, 1, none⟩ (.slice none 0 0))) from HI.out.kept.next hkz (fun i hi e => by have := HI.out.fr.2.2.2.2; omega))
   clear hkz
   go_wp2_with fail
   refine bodyPost_ret (v := .agg #[.slice (some ⟨g, 0, none⟩) n n, .slice none 0 0]) (by simp [results, Tryz.results4, go_sem, z0, z1]) rfl ⟨_, _, _, rfl, ⟨?_, OwnP.nil _ _ _ _, fun b hb => absurd hb (footP_nil b)⟩, fun b hb => by simp only [Value.ownBlock] at hb; have := Option.some.inj hb; have := HI.out.fr.1; omega, HKZ.out⟩
   rw [HD.out]
   exact HOZ.out
end Go.Proofs.YtglokpakmlegbaaGreatDoor
