package ranks

import (
	"math"

	"sluice/api"
	"sluice/grain"
	"sluice/tally"
)

// The parts that programs embed; methods with capitals are api.Program's.

// forwards is a program that goes along edges forwards alone.
type forwards struct{}

func (forwards) Both() bool { return false }

// exact is an exact sum in the words 0 to 5 of a state.
type exact struct{}

// plus tells the state with a number added.
func (exact) plus(s api.State, x uint32) api.State {
	return tally.Mon(api.MonTally, s, 0, uint64(x))
}

// total tells the sum, rounded.
func (exact) total(s api.State) float32 {
	sum := tally.Sum(s[:api.TallyWords])
	x, err := sum.Round(api.RoundEven)
	if err == api.ErrSpan {
		return float32(math.Inf(sum.Sign()))
	}
	return x
}

// gathered is an exact sum of what comes to a vertex; two words are left for what it keeps.
type gathered struct{ exact }

func (gathered) Words() int { return api.StateWords }

func (gathered) Sink() api.Sink { return api.Sink{A: 0, MonA: api.MonTally} }

// sent tells what Scatter answers that sends a number.
func (gathered) sent(x float32) (a, b uint64, send bool, err api.Errno) {
	return uint64(grain.Bits(x)), 0, true, api.OK
}

// paced is a run that ends where nothing has changed, and behind so many rounds at the latest.
type paced struct{ rounds int }

func (p paced) Turn(c api.Ctl, _ api.State, changed uint64, round int) (api.Ctl, bool, api.Errno) {
	return c, changed == 0 || round >= p.rounds, api.OK
}

// isPace tells whether a run may have so many rounds.
func isPace(rounds int) bool { return rounds >= 1 && rounds <= api.MaxRanked }

// once is a run of a single round.
type once struct{}

func (once) Turn(c api.Ctl, _ api.State, _ uint64, _ int) (api.Ctl, bool, api.Errno) {
	return c, true, api.OK
}

// noAggregate is a program that has none.
type noAggregate struct{}

func (noAggregate) Fold(_ api.Ctl, agg api.State, _ uint32, _ api.State) (api.State, api.Errno) {
	return agg, api.OK
}
