package width

import (
	"quipu/api"
	"quipu/dec"
	"quipu/round"
)

// precision is a type of this package's own, so that it has methods for the table of kinds.
type precision api.Precision

// kind is what a precision of one kind does.
type kind struct {
	fields  func(precision) bool                          // are those that it has as they may be, and the others zero?
	rounded func(precision, api.Dec) (api.Dec, api.Errno) // what a number is rounded to
	least   func(precision, api.Dec) int                  // of what it is rounded to: how many fraction digits there are at least
}

func kinds() [api.Precs]kind {
	return [api.Precs]kind{
		api.PrecAll:  {precision.fieldsOfAll, precision.asItIs, precision.none},
		api.PrecFrac: {precision.fieldsOfFrac, precision.atFrac, precision.minFrac},
		api.PrecSig:  {precision.fieldsOfSig, precision.toSig, precision.fracOfSig},
		api.PrecBoth: {precision.fieldsOfBoth, precision.atBoth, precision.fracOfBoth},
		api.PrecStep: {precision.fieldsOfStep, precision.toStep, precision.minFrac},
	}
}

// may looks at the kind ahead of asking the table, which has no others.
func (p precision) may() bool {
	return within(p.Kind, 0, api.Precs-1) && within(p.Mode, 0, api.Modes-1) && p.mayInt() && kinds()[p.Kind].fields(p)
}

func (p precision) mayInt() bool {
	return within(p.IntMin, 0, api.MaxWidth) && (p.IntMax == 0 || within(p.IntMax, p.IntMin, api.MaxWidth))
}

func within(n, low, high int) bool {
	return low <= n && n <= high
}

func (p precision) fieldsOfAll() bool {
	return p.lacksFrac() && p.lacksSig() && !p.Strict && p.lacksStep()
}

func (p precision) fieldsOfFrac() bool {
	return p.mayFrac() && p.lacksSig() && !p.Strict && p.lacksStep()
}

func (p precision) fieldsOfSig() bool {
	return p.lacksFrac() && p.maySig() && !p.Strict && p.lacksStep()
}

func (p precision) fieldsOfBoth() bool {
	return p.mayFrac() && p.maySig() && p.lacksStep()
}

func (p precision) fieldsOfStep() bool {
	return within(p.MinFrac, 0, api.MaxWidth) && p.MaxFrac == 0 && p.lacksSig() && !p.Strict && p.mayStep()
}

func (p precision) mayFrac() bool {
	return within(p.MinFrac, 0, p.MaxFrac) && p.MaxFrac <= api.MaxWidth
}

func (p precision) maySig() bool {
	return within(p.MinSig, 1, p.MaxSig) && p.MaxSig <= api.MaxWidth
}

// mayStep asks with a zero, which is refused for the step's sake alone.
func (p precision) mayStep() bool {
	_, err := round.Step(api.Dec{}, p.Step, api.Down)
	return err == api.OK
}

func (p precision) lacksFrac() bool { return p.MinFrac == 0 && p.MaxFrac == 0 }

func (p precision) lacksSig() bool { return p.MinSig == 0 && p.MaxSig == 0 }

func (p precision) lacksStep() bool { return p.Step == api.Dec{} }

func (p precision) asItIs(x api.Dec) (api.Dec, api.Errno) {
	return x, api.OK
}

func (p precision) atFrac(x api.Dec) (api.Dec, api.Errno) {
	return round.At(x, -p.MaxFrac, p.Mode)
}

func (p precision) toSig(x api.Dec) (api.Dec, api.Errno) {
	return round.Digits(x, p.MaxSig, p.Mode)
}

func (p precision) atBoth(x api.Dec) (api.Dec, api.Errno) {
	byFrac, bySig := -p.MaxFrac, dec.Place(x)-p.MaxSig
	if p.Strict {
		return round.At(x, max(byFrac, bySig), p.Mode)
	}
	return round.At(x, min(byFrac, bySig), p.Mode)
}

func (p precision) toStep(x api.Dec) (api.Dec, api.Errno) {
	return round.Step(x, p.Step, p.Mode)
}

func (p precision) none(_ api.Dec) int {
	return 0
}

func (p precision) minFrac(_ api.Dec) int {
	return p.MinFrac
}

// fracOfSig: a zero's one digit stands ahead of the point, so it counts as if its place were 1.
func (p precision) fracOfSig(r api.Dec) int {
	if r.Digits == "" {
		return p.MinSig - 1
	}
	return max(0, p.MinSig-dec.Place(r))
}

func (p precision) fracOfBoth(r api.Dec) int {
	return max(p.MinFrac, p.fracOfSig(r))
}
