/- Plain facts: what the plain functions say of the texts that the statements' common first step reads. -/
import Derived.Test.YtcjcbhdildcceaaGreatDoorLexSm
import Derived.Test.YtcjcbhdildcceaaGreatDoorLexK
import Derived.Test.YtcjcbhdildcceaaGreatDoorLexS2
namespace Go.Proofs.YtcjcbhdildcceaaGreatDoor

/-- "a: 3 + x'y'" -/
def aw1 : List UInt8 := [97, 58, 32, 51, 32, 43, 32, 120, 39, 121, 39]
/-- "a.b a. b 'it''s' \"no\"" -/
def aw2 : List UInt8 := [97, 46, 98, 32, 97, 46, 32, 98, 32, 39, 105, 116, 39, 39, 115, 39, 32, 34, 110, 111, 34]
/-- "a # b" -/
def aw3 : List UInt8 := [97, 32, 35, 32, 98]
/-- "a 'b' " -/
def aw4 : List UInt8 := [97, 32, 39, 98, 39, 32]
theorem aw1_divide : Lx.divide aw1 = ([⟨2, [97, 58], 1, 1, 0, 2⟩, ⟨5, [51], 1, 4, 3, 4⟩, ⟨7, [43], 1, 6, 5, 6⟩, ⟨1, [120], 1, 8, 7, 8⟩, ⟨6, [121], 1, 9, 8, 11⟩], 0, 0) := by rfl
theorem aw2_divide : Lx.divide aw2 = ([⟨1, [97], 1, 1, 0, 1⟩, ⟨9, [46], 1, 2, 1, 2⟩, ⟨1, [98], 1, 3, 2, 3⟩, ⟨1, [97], 1, 5, 4, 5⟩, ⟨8, [46], 1, 6, 5, 6⟩, ⟨1, [98], 1, 8, 7, 8⟩, ⟨6, [105, 116, 39, 115], 1, 10, 9, 16⟩], 0, 0) := by rfl
theorem aw3_divide : Lx.divide aw3 = ([], 10, 2) := by rfl
theorem aw4_divide : (Lx.divide aw4).1.map Lx.Sp.to = [1, 5] := by rfl
/-- "at:Put:", "'a'", "-" -/
theorem aw_kinds : Lx.soleKind [97, 116, 58, 80, 117, 116, 58] = 0 ∧ Lx.soleKind [39, 97, 39] = 6 ∧ Lx.soleKind [45] = 7 := ⟨rfl, rfl, rfl⟩
end Go.Proofs.YtcjcbhdildcceaaGreatDoor
