package wheel

import (
	"iter"
	"strconv"
	"strings"

	"sluice/api"
	"sluice/purse"
	"sluice/reel"
)

// Digits of a generation and of a part in the names of files.
const (
	genDigits  = 7
	partDigits = 4
)

func digits(n, width int) string {
	text := strconv.Itoa(n)
	return strings.Repeat("0", max(0, width-len(text))) + text
}

func stateFile(run string, gen, part int) string {
	return run + "-s-" + digits(gen, genDigits) + "-" + digits(part, partDigits)
}

func updateFile(run string, part int) string { return run + "-u-" + digits(part, partDigits) }

// tape is where the states of a run lie: a file for each generation and part.
type tape struct {
	v    api.Volume
	run  string
	form reel.Form[api.State]
}

func tapeOf(v api.Volume, run string, words int) (*tape, api.Errno) {
	form, err := reel.StateForm(words)
	if err != api.OK {
		return nil, err
	}
	return &tape{v, run, form}, api.OK
}

func (t *tape) title(gen, part int) api.Title {
	return api.Title{Family: api.FamStates, Width: t.form.Width(), Tag: tagOf(t.run, gen*api.MaxParts+part)}
}

// write lays the states of a part down, durable but for the name, and tells how a manifest is to name them.
func (t *tape) write(gen, part int, states []api.State, buf []byte) (api.FileMark, api.Errno) {
	name := stateFile(t.run, gen, part)
	w, err := reel.Create(t.v, name, t.title(gen, part), t.form, buf)
	if err != api.OK {
		return api.FileMark{}, err
	}
	if err := w.Put(states...); err != api.OK {
		return api.FileMark{}, err
	}
	if err := w.Close(); err != api.OK {
		return api.FileMark{}, err
	}
	return api.FileMark{Name: name, Records: w.Count(), Sum: w.Sum()}, api.OK
}

// open begins to read the states of a part.
func (t *tape) open(gen, part int, mark api.FileMark, buf []byte) (*reel.Reader[api.State], api.Errno) {
	return reel.Open(t.v, mark.Name, t.title(gen, part), t.form, buf)
}

// read fills the states of a part out of its file, which must have as many.
func (t *tape) read(gen, part int, mark api.FileMark, states []api.State, buf []byte) api.Errno {
	r, err := t.open(gen, part, mark, buf)
	if err != api.OK {
		return err
	}
	for i, s := range r.All() {
		if i < int64(len(states)) {
			states[i] = s
		}
	}
	if err := whole(r, mark); err != api.OK {
		return err
	}
	if r.Count() != int64(len(states)) {
		return api.ErrTotal
	}
	return api.OK
}

// Readout is a run's result that is read.
type Readout struct {
	tape   *tape
	mark   api.RunMark
	leased *kit
	buf    []byte
	reader *reel.Reader[api.State] // of the file that is being read, if one is
	part   int                     // the file that is next, or is being read
	told   uint32                  // vertices
	code   api.Errno
	closed bool
}

// States begins to read a run's result (P12.10).
func States(v api.Volume, p *purse.Purse, run string, batch int) (*Readout, api.Errno) {
	switch {
	case v == nil || p == nil:
		return nil, api.ErrNil
	case !isName(run) || !isBatch(batch):
		return nil, api.ErrArg
	}
	m, err := Info(v, run)
	if err != api.OK {
		return nil, err
	}
	if !m.Done {
		return nil, api.ErrRun
	}
	t, err := tapeOf(v, run, m.Words)
	if err != api.OK {
		return nil, err
	}
	leased := &kit{purse: p}
	buf := lease[uint8](leased, chunkBytes, "states")
	if leased.err != api.OK {
		return nil, leased.err
	}
	return &Readout{tape: t, mark: m, leased: leased, buf: buf, code: api.ErrState}, api.OK
}

// made tells whether there is a Readout: one that States has not made has no files.
func (r *Readout) made() bool { return r != nil && r.tape != nil }

// All tells vertices and states, rising (P12.10).
func (r *Readout) All() iter.Seq2[uint32, api.State] {
	return func(yield func(uint32, api.State) bool) {
		for {
			s, more := r.next()
			if !more {
				return
			}
			v := r.told
			r.told++
			if !yield(v, s) {
				return
			}
		}
	}
}

// next tells the next state. It goes on while the code is ErrState: till all is told, or something is wrong.
func (r *Readout) next() (api.State, bool) {
	if !r.made() || r.closed {
		return api.State{}, false
	}
	for r.code == api.ErrState {
		if r.part == len(r.mark.Files) {
			r.code = api.OK
			break
		}
		if !r.begin() {
			break
		}
		s, more := r.reader.Next()
		if more && r.reader.Count() < r.mark.Files[r.part].Records {
			return s, true
		}
		if r.end() && more {
			return s, true
		}
	}
	return api.State{}, false
}

// begin opens the next file, unless one is being read.
func (r *Readout) begin() bool {
	if r.reader == nil {
		reader, err := r.tape.open(r.mark.Gen, r.part, r.mark.Files[r.part], r.buf)
		if err != api.OK {
			r.code = err
			return false
		}
		r.reader = reader
	}
	return true
}

// end reads the end of a file. It is read ahead of the telling of the file's last state, so that Code knows of it as soon as that is told.
func (r *Readout) end() bool {
	r.reader.Next()
	if err := whole(r.reader, r.mark.Files[r.part]); err != api.OK {
		r.code = err
		return false
	}
	r.reader = nil
	r.part++
	if r.part == len(r.mark.Files) {
		r.code = api.OK
	}
	return true
}

// Code tells OK just if all was read and was right (P12.10).
func (r *Readout) Code() api.Errno {
	if !r.made() {
		return api.ErrNil
	}
	return r.code
}

// Close gives back what it holds (P12.10).
func (r *Readout) Close() api.Errno {
	switch {
	case !r.made():
		return api.ErrNil
	case r.closed:
		return api.ErrState
	}
	r.closed = true
	r.leased.giveBack()
	return api.OK
}
