package mill_test

import (
	"math"
	"slices"
	"testing"

	"sluice/api"
	"sluice/mill"
)

// P19.1: the errors of New in their order: of two faults the first is told.
func TestNewRefuses(t *testing.T) {
	wrong := []api.Fault{{Op: 0, Kind: api.FaultRead}}
	long := slices.Repeat([]api.Fault{{Op: 1, Kind: api.FaultRead}}, api.MaxFaults+1)
	plans := func(l ...[]api.Fault) [][]api.Fault { return l }
	for i, c := range []struct {
		s    api.Setup
		want api.Errno
	}{
		{api.Setup{Disks: 2, Quota: -1, Plans: plans(nil, nil, nil)}, api.ErrDisks},
		{api.Setup{Disks: math.MinInt, Quota: 1, Plans: plans(nil)}, api.ErrDisks},
		{api.Setup{Disks: math.MaxInt}, api.ErrDisks},
		{api.Setup{Disks: 1, Quota: -1, Plans: plans(nil, nil)}, api.ErrLong},
		{api.Setup{Disks: 8, Quota: roomy, Plans: make([][]api.Fault, 9)}, api.ErrLong},
		{api.Setup{Disks: 1, Quota: -1, Budget: -1}, api.ErrArg},
		{api.Setup{Disks: 3, Quota: api.MaxQuota + 1, Budget: -1, Plans: plans(wrong)}, api.ErrArg},
		{api.Setup{Disks: 3, Quota: 0, Budget: -1}, api.ErrPurse},
		{api.Setup{Disks: 1, Budget: api.MaxBudget + 1, Plans: plans(wrong)}, api.ErrPurse},
		{api.Setup{Disks: 3, Quota: 0, Plans: plans(wrong)}, api.ErrQuota},
		{api.Setup{Disks: 3, Quota: roomy, Plans: plans(nil, wrong, long)}, api.ErrPlan},
		{api.Setup{Disks: 3, Quota: roomy, Plans: plans(nil, long, wrong)}, api.ErrLong},
		{api.Setup{Disks: 1, Plans: plans(wrong)}, api.ErrPlan},
		{api.Setup{Disks: 1, Plans: plans([]api.Fault{{Op: -5, Kind: api.FaultOff}})}, api.ErrPlan},
		{api.Setup{Disks: 3, Quota: roomy, Plans: plans([]api.Fault{{Op: 0, Kind: api.FaultOff}})}, api.ErrPlan},
		{api.Setup{Disks: 3, Quota: roomy, Plans: plans([]api.Fault{{Op: math.MinInt64, Kind: api.FaultOff}})}, api.ErrPlan},
		{api.Setup{Disks: 1, Plans: plans([]api.Fault{{Op: 1, Kind: 10}})}, api.ErrPlan},
	} {
		if m, e := mill.New(c.s); m != nil || e != c.want {
			t.Errorf("P19.1: case %d: %v, %d, want %d", i, m, e, c.want)
		}
	}
}

// P19.1, P19.2: how many disks there may be, and what New gives.
func TestNewGives(t *testing.T) {
	for disks := -2; disks < 12; disks++ {
		m, e := mill.New(api.Setup{Disks: disks, Quota: roomy, Budget: 77})
		if disks != 1 && (disks < 3 || disks > 8) {
			if m != nil || e != api.ErrDisks {
				t.Errorf("P19.1: %d disks: %d", disks, e)
			}
			continue
		}
		must(t, "P19.1", e)
		if words, used, high := m.Purse(); words != 77 || used != 0 || high != 0 {
			t.Errorf("P19.2: %d, %d, %d", words, used, high)
		}
		for i := range disks {
			if d := m.Disk(i); d == nil || !d.Lit() || i > 0 && d == m.Disk(i-1) {
				t.Errorf("P19.2: disk %d of %d", i, disks)
			}
		}
		for _, i := range []int{-1, disks, math.MinInt, math.MaxInt} {
			if m.Disk(i) != nil {
				t.Errorf("P19.2: disk %d of %d", i, disks)
			}
		}
	}
	for _, s := range []api.Setup{{Disks: 1}, {Disks: 1, Quota: api.MaxQuota, Budget: api.MaxBudget}} {
		if m, e := mill.New(s); m == nil || e != api.OK {
			t.Errorf("P19.1: %+v: %d", s, e)
		}
	}
}

// P19.1: a fault's operation number counts from behind New, on one disk and on several, whose stripe is laid down by then.
func TestFaultsCountFromBehindNew(t *testing.T) {
	w := world{ask: askOf("bfs"), n: 3, kind: api.EPlain, edges: between(0, 1, 1, 2)}
	for _, disks := range []int{1, 3, 5} {
		made := open(t, disks).Disk(0).Ops()
		if disks > 1 && made == 0 {
			t.Fatal("no operation ahead of the plan?")
		}
		for at := int64(1); at < 12; at++ {
			plan := []api.Fault{{Op: at, Kind: api.FaultOff}}
			m := open(t, disks, plan)
			plan[0].Op = 1 // what is handed in is not kept
			if _, e := w.load(t, m); e != api.ErrOff {
				t.Fatalf("P19.1: %d disks, power off at %d: %d", disks, at, e)
			}
			if ops := m.Disk(0).Ops(); ops != made+at {
				t.Errorf("P19.1: %d disks, power off at %d: %d operations behind the %d of New", disks, at, ops, made)
			}
		}
		for _, at := range []int64{1 << 62, 1<<62 + 1, math.MaxInt64 - 1, math.MaxInt64} {
			m := open(t, disks, []api.Fault{{Op: at, Kind: api.FaultOff}})
			_, e := w.load(t, m)
			must(t, "P19.1: a fault that never strikes", e)
		}
	}
}

// P19.1: the plans' lists are not changed, spare room neither.
func TestPlansAreTheCallers(t *testing.T) {
	plan := []api.Fault{{Op: 5, Kind: api.FaultRead, N: 1}, {Op: 7, Kind: api.FaultRead, N: 2}, {Op: 9, Kind: api.FaultRead, N: 3}}
	whole := slices.Clone(plan)
	open(t, 3, plan[:1], plan[:2])
	if !slices.Equal(plan, whole) {
		t.Error("P0.1", plan)
	}
}

// P19.1: a nil mill, and one that New has not made.
func TestNoMill(t *testing.T) {
	for _, m := range []*mill.Mill{nil, {}} {
		if m.Disk(0) != nil || m.Script("purse\n") != "" || m.Script("walk\n") != "" {
			t.Error("P19.1: nothing is told")
		}
		if a, b, c := m.Purse(); a != 0 || b != 0 || c != 0 {
			t.Error("P19.1: Purse")
		}
		g, e := m.Load("", nil)
		o, f := m.Run("")
		r, h := m.Resume("")
		table, i := m.Rows("")
		v, j := m.Audit("")
		for k, e := range []api.Errno{e, f, h, i, j, m.Teach("P", "x"), m.Wipe("R"), m.Uproot("G"), m.Restart(), m.Swap(-1)} {
			if e != api.ErrNil {
				t.Errorf("P19.1: call %d: %d", k, e)
			}
		}
		if g != (api.Graph{}) || o != (api.Outcome{}) || r != o || table != nil || v != (api.Verdict{}) {
			t.Error("P19.1: with an error all else is zero")
		}
	}
}

// P19.11: the class of every number.
func TestClasses(t *testing.T) {
	classes := map[api.Class][]api.Errno{
		api.Fine:     {0},
		api.TooSmall: {41, 42, 94, 67},
		api.DiskFull: {33, 32},
		api.IOFault:  {35, 34, 51, 53, 52},
		api.Corrupt:  {60, 61, 62, 63, 64, 65, 66, 78, 31},
		api.PowerOff: {36},
		api.BadInput: {80, 81, 82, 83, 84, 85, 86, 87, 91, 95},
		api.Trapped:  {111, 112, 113, 114, 121, 141, 13},
	}
	want := map[api.Errno]api.Class{}
	for class, l := range classes {
		for _, e := range l {
			want[e] = class
		}
	}
	for e := api.Errno(-300); e < 1300; e++ {
		class, said := want[e]
		if !said {
			class = api.BadConfig
		}
		if mill.Class(e) != class {
			t.Errorf("P19.11: %d: %d, want %d", e, mill.Class(e), class)
		}
	}
	for _, e := range []api.Errno{math.MinInt, math.MaxInt} {
		if mill.Class(e) != api.BadConfig {
			t.Error("P19.11", e)
		}
	}
}
