/- Contracts of strings.Builder's methods that write, and of strings.ReplaceAll at the two pairs of texts that package lex uses: out of the library's own. No conditions but those in each statement. -/
import Derived.Test.YtcjcbhdildcceaaGreatDoorLexQ
import Derived.Test.YtcjcbhdildcceaaGreatDoorShelf
import Derived.Below
namespace Go.Proofs.YtcjcbhdildcceaaGreatDoor
open Go Go.RowKit

def wbRen : Go.Shelf.Ren := ⟨fun | 167 => 37 | 240 => 62 | 276 => 89 | n => n, Tryz.lays154_ren.t, Tryz.lays154_ren.g⟩
theorem wbLays : Go.Proofs.Lays.n167 Tryz.prog wbRen := {
  mixed := Tryz.lays154.mixed
  f167 := Tryz.func37.trans (congrArg some (by kernel_rfl))
  f240 := Tryz.func62.trans (congrArg some (by kernel_rfl))
  f276 := Tryz.func89.trans (congrArg some (by kernel_rfl))
  t0 := Tryz.lays154.t0
  a0 := Tryz.lays154.a0
  z0 := Tryz.lays154.z0
  v0 := Tryz.lays154.v0
  t4 := Tryz.lays154.t4
  a4 := Tryz.lays154.a4
  z4 := Tryz.lays154.z4
  v4 := Tryz.lays154.v4
  t5 := Tryz.lays154.t5
  a5 := Tryz.lays154.a5
  z5 := Tryz.lays154.z5
  v5 := Tryz.lays154.v5
  t9 := Tryz.lays154.t9
  a9 := Tryz.lays154.a9
  z9 := Tryz.lays154.z9
  v9 := Tryz.lays154.v9
  t20 := Tryz.lays154.t20
  a20 := Tryz.lays154.a20
  z20 := Tryz.lays154.z20
  v20 := Tryz.lays154.v20
  t37 := Tryz.lays154.t37
  a37 := Tryz.lays154.a37
  z37 := Tryz.lays154.z37
  v37 := Tryz.lays154.v37
  t70 := Tryz.lays154.t70
  a70 := Tryz.lays154.a70
  z70 := Tryz.lays154.z70
  v70 := Tryz.lays154.v70
  t72 := Tryz.lays154.t72
  a72 := Tryz.lays154.a72
  z72 := Tryz.lays154.z72
  v72 := Tryz.lays154.v72
  t75 := Tryz.lays154.t75
  a75 := Tryz.lays154.a75
  z75 := Tryz.lays154.z75
  v75 := Tryz.lays154.v75
  t164 := Tryz.lays154.t164
  a164 := Tryz.lays154.a164
  z164 := Tryz.lays154.z164
  v164 := Tryz.lays154.v164 }
theorem wbExtra : Builder.Extra Tryz.prog wbRen := {
  sizeBuilder := by kernel_rfl
  liesBuilder := by kernel_rfl
  t5 := Tryz.underlying5
  a5 := Tryz.isAgg5
  z5 := Tryz.sizeOf5
  v5 := Tryz.zeroValue5
  infoByte := by kernel_rfl
  cellsByte := by kernel_rfl
  sizeByte := by kernel_rfl
  neB5 := by decide }

theorem writeByte_c (B b : Nat) (l : List UInt8) (c : UInt8) (w : World) (h : Lib.IsBuilder 70 5 B b (Lib.byteCells l) w) (hlen : l.length + 1 ≤ 140737488355328) (hBw : B ≤ w.heap.size) :
    Calls Tryz.prog 37 #[.pointer (some ⟨b, 0, none⟩), .int .u8 c.toNat] w fun e w' =>
      e = .returned .nilIface ∧ Lib.IsBuilder 70 5 B b (Lib.byteCells (l ++ [c])) w' ∧ Below B w w' := by
  refine (Any.Builder_WriteByte wbLays wbExtra B b (Lib.byteCells l) c.toNat w h (by rw [Lib.byteCells_length]; exact hlen) hBw).mono ?_
  rintro e w' ⟨rfl, hb, hbw⟩
  refine ⟨rfl, .inr ?_, hbw⟩
  have e1 : Lib.byteCells (l ++ [c]) = Lib.byteCells l ++ [.int .u8 c.toNat] := by rw [Lib.byteCells_append]; rfl
  rw [e1]
  exact hb

theorem writeString_c (B b : Nat) (l m : List UInt8) (w : World) (h : Lib.IsBuilder 70 5 B b (Lib.byteCells l) w) (hlen : l.length + m.length ≤ 140737488355328) (hBw : B ≤ w.heap.size) :
    Calls Tryz.prog 38 #[.pointer (some ⟨b, 0, none⟩), .string ⟨m.toArray⟩] w fun e w' =>
      e = .returned (.tuple #[.int .i64 m.length, .nilIface]) ∧ Lib.IsBuilder 70 5 B b (Lib.byteCells (l ++ m)) w' ∧ Below B w w' := by
  have hsz : (⟨m.toArray⟩ : ByteArray).size = m.length := by simp [ByteArray.size]
  refine (Any.Builder_WriteString { Tryz.lays154 with } Tryz.Builder_Extra_154 B b (Lib.byteCells l) ⟨m.toArray⟩ w h (by rw [Lib.byteCells_length, hsz]; exact hlen) hBw).mono ?_
  rintro e w' ⟨rfl, hb, hbw⟩
  refine ⟨by rw [hsz], .inr ?_, hbw⟩
  rw [Lib.strCells_eq, ← Lib.byteCells_append] at hb
  exact hb

theorem replaceDbl_c (l : List UInt8) (m : Int) (w : World) (hs : l.length < 4294967281) (hm : w.cell? ⟨0, 0, none⟩ = some (.int .i64 m)) :
    Calls Tryz.prog 63 #[.string ⟨l.toArray⟩, .string ⟨#[39]⟩, .string ⟨#[39, 39]⟩] w fun e w' =>
      e = .returned (.string ⟨(Lx.dbl l).toArray⟩) ∧ Below w.heap.size w w' := by
  have hsz : (⟨l.toArray⟩ : ByteArray).size = l.length := by simp [ByteArray.size]
  have hle : Lib.countB ⟨l.toArray⟩ ⟨#[39]⟩ * 1 ≤ l.length := by have := Lib.countB_mul_le ⟨#[39]⟩ (by decide) _ ⟨l.toArray⟩ (Nat.le_refl _); rwa [hsz] at this
  refine (Tryz.strings_ReplaceAll ⟨l.toArray⟩ ⟨#[39]⟩ ⟨#[39, 39]⟩ m w (by rw [hsz]; exact hs) hm (by decide) ?_).mono ?_
  · rw [hsz, show (⟨#[39, 39]⟩ : ByteArray).size = 2 from rfl]; omega
  · rintro e w' ⟨rfl, hb⟩
    exact ⟨by rw [← replaceAll_dbl], hb⟩

theorem replaceUndbl_c (l : List UInt8) (m : Int) (w : World) (hs : l.length < 4294967281) (hm : w.cell? ⟨0, 0, none⟩ = some (.int .i64 m)) :
    Calls Tryz.prog 63 #[.string ⟨l.toArray⟩, .string ⟨#[39, 39]⟩, .string ⟨#[39]⟩] w fun e w' =>
      e = .returned (.string ⟨(Lx.undbl l).toArray⟩) ∧ Below w.heap.size w w' := by
  have hsz : (⟨l.toArray⟩ : ByteArray).size = l.length := by simp [ByteArray.size]
  have hle : Lib.countB ⟨l.toArray⟩ ⟨#[39, 39]⟩ * 2 ≤ l.length := by have := Lib.countB_mul_le ⟨#[39, 39]⟩ (by decide) _ ⟨l.toArray⟩ (Nat.le_refl _); rwa [hsz] at this
  refine (Tryz.strings_ReplaceAll ⟨l.toArray⟩ ⟨#[39, 39]⟩ ⟨#[39]⟩ m w (by rw [hsz]; exact hs) hm (by decide) ?_).mono ?_
  · rw [hsz, show (⟨#[39]⟩ : ByteArray).size = 1 from rfl]; omega
  · rintro e w' ⟨rfl, hb⟩
    exact ⟨by rw [← replaceAll_undbl], hb⟩
end Go.Proofs.YtcjcbhdildcceaaGreatDoor
