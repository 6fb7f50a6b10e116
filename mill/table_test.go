package mill_test

import (
	"slices"
	"testing"

	"sluice/api"
	"sluice/mill"
)

// ringed is a mill of so many disks with a done run of bfs over a way of ten vertices, in three parts.
func ringed(t testing.TB, disks int) (*mill.Mill, world) {
	t.Helper()
	w := world{ask: askOf("bfs"), n: 10, kind: api.EPlain, edges: between(0, 1, 1, 2, 2, 3, 3, 4, 4, 5, 5, 6, 6, 7, 7, 8, 8, 9)}
	m := open(t, disks)
	_, e := w.load(t, m, "parts = 3")
	must(t, "P19.3", e)
	_, e = m.Run(w.job())
	must(t, "P19.4", e)
	return m, w
}

// table opens a table, which holds something.
func table(t testing.TB, m *mill.Mill, w world) *mill.Table {
	t.Helper()
	table, e := m.Rows(w.job())
	must(t, "P19.6", e)
	if _, used, _ := m.Purse(); used == 0 || table.Code() != api.ErrState {
		t.Fatalf("P19.6: a table that is open: %d words, %d", used, table.Code())
	}
	return table
}

// some goes over so many rows of a table at most.
func some(table *mill.Table, most int) (l []uint32) {
	for v := range table.All() {
		if l = append(l, v); len(l) == most {
			break
		}
	}
	return l
}

// P19.6: a table is left early and gone on with, in one ranging within another too; its code is ErrState till all was told.
func TestTableIsGoneOnWith(t *testing.T) {
	m, w := ringed(t, 1)
	x := table(t, m, w)
	if l := some(x, 4); !slices.Equal(l, []uint32{0, 1, 2, 3}) || x.Code() != api.ErrState {
		t.Errorf("P19.6: %v, %d", l, x.Code())
	}
	var l []uint32
	for v, row := range x.All() {
		if row != number(int(v))+" "+number(max(0, int(v)-1)) {
			t.Errorf("P19.6: %d %s", v, row)
		}
		l = append(l, v)
		l = append(l, some(x, 2)...)
		if len(l) == 3 && x.Code() != api.ErrState {
			t.Errorf("P19.6: %d behind %v", x.Code(), l)
		}
	}
	if !slices.Equal(l, []uint32{4, 5, 6, 7, 8, 9}) || x.Code() != api.OK || len(some(x, 9)) != 0 {
		t.Errorf("P19.6: %v, %d", l, x.Code())
	}
	if x.Close() != api.OK || x.Close() != api.ErrState || x.Code() != api.OK {
		t.Error("P19.6: closed")
	}
	still(t, m, "P19.6: closed")
}

// P19.6: behind Close nothing is told, and the code is what it was; a ranging under way ends.
func TestTableIsClosed(t *testing.T) {
	m, w := ringed(t, 1)
	x := table(t, m, w)
	told := 0
	for v := range x.All() {
		if told++; v == 2 {
			must(t, "P19.6", x.Close())
		}
	}
	if told != 3 || len(some(x, 9)) != 0 || x.Code() != api.ErrState || x.Close() != api.ErrState {
		t.Errorf("P19.6: %d rows, %d", told, x.Code())
	}
	still(t, m, "P19.6: closed")
}

// P19.6: of a nil table, and of one that Rows has not made.
func TestNoTable(t *testing.T) {
	for _, x := range []*mill.Table{nil, {}} {
		if len(some(x, 1)) != 0 || x.Code() != api.ErrNil || x.Close() != api.ErrNil {
			t.Error("P19.6: no table")
		}
	}
}

// P19.6: every call that needs the volume closes a table that is open, whatever it answers; the others leave it.
func TestTableIsClosedByOthers(t *testing.T) {
	calls := map[string]func(m *mill.Mill, w world) api.Errno{
		"Load": func(m *mill.Mill, w world) api.Errno {
			_, e := m.Load("[graph]\nname = h\nvertices = 1\n", nil)
			return e
		},
		"Load, wrong":     func(m *mill.Mill, w world) api.Errno { _, e := m.Load("", make([]byte, api.MaxInput+1)); return e },
		"Run":             func(m *mill.Mill, w world) api.Errno { _, e := m.Run(w.jobOf("s", "g")); return e },
		"Run, wrong":      func(m *mill.Mill, w world) api.Errno { _, e := m.Run(""); return e },
		"Resume":          func(m *mill.Mill, w world) api.Errno { _, e := m.Resume(w.job()); return e },
		"Resume, wrong":   func(m *mill.Mill, w world) api.Errno { _, e := m.Resume("?"); return e },
		"Rows, wrong":     func(m *mill.Mill, w world) api.Errno { _, e := m.Rows(askOf("dfs").job()); return e },
		"Audit":           func(m *mill.Mill, w world) api.Errno { _, e := m.Audit(w.job()); return e },
		"Audit, wrong":    func(m *mill.Mill, w world) api.Errno { _, e := m.Audit(""); return e },
		"Wipe":            func(m *mill.Mill, w world) api.Errno { return m.Wipe("r") },
		"Wipe, wrong":     func(m *mill.Mill, w world) api.Errno { return m.Wipe("") },
		"Uproot":          func(m *mill.Mill, w world) api.Errno { return m.Uproot("g") },
		"Uproot, wrong":   func(m *mill.Mill, w world) api.Errno { return m.Uproot("none") },
		"Restart":         func(m *mill.Mill, w world) api.Errno { return m.Restart() },
		"Swap":            func(m *mill.Mill, w world) api.Errno { return m.Swap(0) },
		"Swap, wrong":     func(m *mill.Mill, w world) api.Errno { return m.Swap(9) },
		"Script":          func(m *mill.Mill, w world) api.Errno { m.Script("wipe x\n"); return api.OK },
		"Script, restart": func(m *mill.Mill, w world) api.Errno { m.Script("restart"); return api.OK },
	}
	for name, call := range calls {
		m, w := ringed(t, 3)
		x := table(t, m, w)
		some(x, 2)
		call(m, w)
		if len(some(x, 1)) != 0 || x.Code() != api.ErrState || x.Close() != api.ErrState {
			t.Errorf("P19.6: %s leaves a table open", name)
		}
		still(t, m, "P19.6: "+name)
		x = nil
		for range 2 { // a second one closes the first; and within a ranging
			y, e := m.Rows(w.job())
			if e != api.OK {
				break
			}
			if x != nil && x.Close() != api.ErrState {
				t.Error("P19.6: Rows leaves a table open")
			}
			x = y
		}
		if x != nil {
			told := 0
			for range x.All() {
				told++
				call(m, w)
			}
			if told != 1 {
				t.Errorf("P19.6: %s within a ranging: %d rows", name, told)
			}
			still(t, m, "P19.6: within a ranging: "+name)
		}
	}
	m, w := ringed(t, 3)
	x := table(t, m, w)
	m.Disk(0)
	m.Purse()
	m.Teach("p", "program p;")
	m.Teach("P", "?")
	m.Script("purse\n\nteach p\nprogram p;\n.\nteach\n")
	m.Script("load\n")
	if len(some(x, 99)) != 10 || x.Code() != api.OK || x.Close() != api.OK {
		t.Error("P19.6: a call that needs no volume closes a table")
	}
}

// P19.6: a table is opened anew, and tells all again.
func TestTableAgain(t *testing.T) {
	m, w := ringed(t, 1)
	for range 3 {
		if rows, e := rowsOf(t, m, w.job()); e != api.OK || !slices.Equal(rows, w.model(t).rows) {
			t.Errorf("P19.6: %d, %q", e, rows)
		}
	}
}

// P19.6, P19.20: a bit of the result is turned: what is told ahead of it is right, and the code says it.
func TestTableOfTurnedBits(t *testing.T) {
	seen := map[int]int{}
	for bit := int64(0); ; bit += 13 {
		m, w := ringed(t, 1)
		name := names(t, m)
		file := name[slices.IndexFunc(name, func(s string) bool { return len(s) > 2 && s[:3] == "r-s" })+1] // the second part
		if e := m.Disk(0).Flip(file, bit); e == api.ErrPlace {
			break
		}
		x := table(t, m, w)
		want := w.model(t).rows
		told := 0
		for v, row := range x.All() {
			if row != want[v] {
				t.Fatalf("P19.20: bit %d: %d %s", bit, v, row)
			}
			told++
		}
		if mill.Class(x.Code()) != api.Corrupt || told >= 10 || len(some(x, 1)) != 0 {
			t.Fatalf("P19.6: bit %d: %d rows, %d", bit, told, x.Code())
		}
		seen[told]++
		code := x.Code()
		if x.Close() != api.OK || x.Code() != code {
			t.Error("P19.6: closed behind an error")
		}
		still(t, m, "P19.6: bits")
	}
	if seen[4] == 0 {
		t.Errorf("P19.6: %v", seen)
	}
}
