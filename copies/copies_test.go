package copies_test

import (
	"reflect"
	"slices"
	"testing"

	"proteus/api"
	"proteus/copies"
)

func sample() api.World {
	v := []api.Val{{K: api.VInt, N: 3}, {K: api.VStr, T: "so"}}
	return api.World{
		Objs:    []api.Obj{{Oid: 1, Kind: api.KPlain, Slots: []api.Slot{{Name: "x", Kind: api.SVar, V: v[0]}}}, {Oid: 2, Kind: api.KVector, Elems: slices.Clone(v), Code: 4, Up: 5}},
		Acts:    []api.Act{{Aid: 1, Code: 2, Self: v[1], Holder: 1, Up: 7, Vars: slices.Clone(v), Done: true}},
		Codes:   []api.Code{{Name: "f", Block: true, Outer: 3, Args: 1, Names: []string{"a", "b"}, Init: slices.Clone(v), Lits: slices.Clone(v), Sels: []string{"g"}, Instrs: []api.Instr{{Op: 1, A: 2, B: 3, C: 4}}}},
		NextObj: 8, NextAct: 9,
	}
}

// What is copied is equal, and stays as it is when its copy changes.
func TestWorld(t *testing.T) {
	w := sample()
	v := copies.World(w)
	if !reflect.DeepEqual(v, w) {
		t.Fatalf("the copy is %+v", v)
	}
	v.Objs[0].Slots[0].Name, v.Objs[1].Elems[0].N, v.Objs[0].Oid = "y", 4, 5
	v.Acts[0].Vars[0].N, v.Acts[0].Aid = 4, 5
	c := &v.Codes[0]
	c.Names[0], c.Init[0].N, c.Lits[0].N, c.Sels[0], c.Instrs[0].A, c.Name = "c", 4, 5, "h", 6, "g"
	if !reflect.DeepEqual(w, sample()) {
		t.Errorf("with its copy it has changed: %+v", w)
	}
}

func TestEmpty(t *testing.T) {
	v := copies.World(api.World{NextObj: 3})
	if len(v.Objs)+len(v.Acts)+len(v.Codes) > 0 || v.NextObj != 3 {
		t.Errorf("the copy of nothing is %+v", v)
	}
	if l := copies.All([]int{1, 2}, func(n int) int { return 2 * n }); !slices.Equal(l, []int{2, 4}) {
		t.Errorf("All: %v", l)
	}
}
