package roster

import (
	"slices"
	"strconv"

	"sluice/api"
)

const (
	filesOfSection = 64
	mostRecords    = 1 << 60 // of a file
)

// graphMark is a graph's manifest as a sheet.
type graphMark api.GraphMark

func graphMarkRows() []row[graphMark] {
	return []row[graphMark]{
		{"name", true, (*graphMark).name},
		{"n", true, (*graphMark).n},
		{"kind", true, (*graphMark).kind},
		{"parts", true, (*graphMark).parts},
		{"both", true, (*graphMark).both},
		{"edges", true, (*graphMark).edges},
		{"sum", true, (*graphMark).sum},
	}
}

func (m *graphMark) name() cell { return title(&m.Graph.Name) }
func (m *graphMark) n() cell    { return number(&m.Graph.N, 1, api.MaxVertices) }
func (m *graphMark) kind() cell { return word(&m.Graph.Kind, api.EPlain, "plain", "counted", "real") }
func (m *graphMark) parts() cell {
	return number(&m.Graph.Parts, 1, min(api.MaxParts, int64(m.Graph.N)))
}
func (m *graphMark) both() cell  { return yesOrNo(&m.Graph.Both) }
func (m *graphMark) edges() cell { return number(&m.Graph.Edges, 0, mostEdges) }
func (m *graphMark) sum() cell   { return hex(&m.Graph.Sum, 8) }

// FromGraph writes a graph's manifest (P7.11).
func FromGraph(m api.GraphMark) (string, api.Errno) {
	sheet := graphMark(m)
	return sealed(&sheet, "graph", graphMarkRows(), m.Files)
}

// ToGraph reads it (P7.11).
func ToGraph(text string) (api.GraphMark, api.Errno) {
	var sheet graphMark
	files, err := unsealed(text, &sheet, graphMarkRows())
	if err != api.OK {
		return api.GraphMark{}, err
	}
	sheet.Files = files
	m := api.GraphMark(sheet)
	if again, _ := FromGraph(m); again != text {
		return api.GraphMark{}, api.ErrField
	}
	return m, api.OK
}

// runMark is a run's manifest as a sheet.
type runMark api.RunMark

func runMarkRows() []row[runMark] {
	return []row[runMark]{
		{"run", true, (*runMark).run},
		{"graph", true, (*runMark).graph},
		{"graphsum", true, (*runMark).graphSum},
		{"code", true, (*runMark).code},
		{"words", true, (*runMark).words},
		{"gen", true, (*runMark).gen},
		{"round", true, (*runMark).round},
		{"done", true, (*runMark).done},
		{"ctl", true, (*runMark).ctl},
		{"agg", true, (*runMark).agg},
		{"rounds", true, (*runMark).rounds},
		{"edges", true, (*runMark).edges},
		{"updates", true, (*runMark).updates},
		{"changed", true, (*runMark).changed},
	}
}

func (m *runMark) run() cell      { return title(&m.Run) }
func (m *runMark) graph() cell    { return title(&m.Graph) }
func (m *runMark) graphSum() cell { return hex(&m.GraphSum, 8) }
func (m *runMark) code() cell     { return hex(&m.Code, 8) }
func (m *runMark) words() cell    { return number(&m.Words, 1, api.StateWords) }
func (m *runMark) gen() cell      { return number(&m.Gen, 0, api.MaxCap) }
func (m *runMark) round() cell    { return number(&m.Round, int64(m.Gen), int64(m.Gen)) }
func (m *runMark) done() cell     { return yesOrNo(&m.Done) }
func (m *runMark) ctl() cell      { return hexWords(m.Ctl[:]) }
func (m *runMark) agg() cell      { return hexWords(m.Agg[:]) }
func (m *runMark) rounds() cell   { return number(&m.Stats.Rounds, int64(m.Round), int64(m.Round)) }
func (m *runMark) edges() cell    { return count(&m.Stats.Edges) }
func (m *runMark) updates() cell  { return count(&m.Stats.Updates) }
func (m *runMark) changed() cell  { return count(&m.Stats.Changed) }

// FromRun writes a run's manifest (P7.12).
func FromRun(m api.RunMark) (string, api.Errno) {
	sheet := runMark(m)
	return sealed(&sheet, "run", runMarkRows(), m.Files)
}

// ToRun reads it (P7.12).
func ToRun(text string) (api.RunMark, api.Errno) {
	var sheet runMark
	files, err := unsealed(text, &sheet, runMarkRows())
	if err != api.OK {
		return api.RunMark{}, err
	}
	sheet.Files = files
	m := api.RunMark(sheet)
	if again, _ := FromRun(m); again != text {
		return api.RunMark{}, api.ErrField
	}
	return m, api.OK
}

// sealed writes a sheet, with the sections of its files behind it.
func sealed[S any](sheet *S, name string, rows []row[S], files []api.FileMark) (string, api.Errno) {
	own, ok := laidOut(sheet, name, rows)
	if !ok || len(files) > api.MaxMarks {
		return "", api.ErrField
	}
	ss := []api.Section{own}
	for chunk := range slices.Chunk(files, filesOfSection) {
		section, ok := fileSection(chunk, len(ss)-1)
		if !ok {
			return "", api.ErrField
		}
		ss = append(ss, section)
	}
	text, err := Print(ss...)
	if err != api.OK {
		return "", err
	}
	return Seal(text)
}

func fileSection(files []api.FileMark, number int) (section api.Section, ok bool) {
	section.Name = "files." + strconv.Itoa(number)
	for i, f := range files {
		value, ok := fileCell(&f).tell()
		if !ok {
			return api.Section{}, false
		}
		section.Entries = append(section.Entries, api.Entry{Name: "f" + strconv.Itoa(i), Value: value})
	}
	return section, true
}

func fileCell(f *api.FileMark) cell {
	return inRow(label(&f.Name, api.MaxFileMark, "-."), number(&f.Records, 0, mostRecords), hex(&f.Sum, 8))
}

// unsealed reads a sheet, and tells its files. It takes more than sealed writes: whoever calls holds what it read against the text.
func unsealed[S any](text string, sheet *S, rows []row[S]) (files []api.FileMark, err api.Errno) {
	body, err := Unseal(text)
	if err != api.OK {
		return nil, err
	}
	ss, err, _ := Parse(body)
	if err != api.OK || len(ss) == 0 {
		return nil, api.ErrField
	}
	if _, ok := fill(sheet, ss[0], rows); !ok {
		return nil, api.ErrField
	}
	for _, value := range All(ss[1:]) {
		var f api.FileMark
		if !fileCell(&f).take(value) {
			return nil, api.ErrField
		}
		files = append(files, f)
	}
	return files, api.OK
}
