package block

import "quipu/api"

// noFault is the kind of the zero fault, which stands for none, because none that may be has it.
const noFault = 0

// fault is a type of this package's own, so that it has methods for the list of changes.
type fault api.Fault

// changes: what a fault of each kind makes of the bytes that were asked for.
func changes() []func(fault, string) (string, api.Errno) {
	return []func(fault, string) (string, api.Errno){
		noFault:        fault.leaves,
		api.FaultError: fault.fails,
		api.FaultShort: fault.shortens,
		api.FaultFlip:  fault.flips,
	}
}

func (f fault) leaves(told string) (string, api.Errno) {
	return told, api.OK
}

func (f fault) fails(_ string) (string, api.Errno) {
	return "", api.ErrBlockRead
}

func (f fault) shortens(told string) (string, api.Errno) {
	return told[:f.Byte%len(told)], api.OK
}

// flips works on a copy: what the disk has stays as it is.
func (f fault) flips(told string) (string, api.Errno) {
	turned := make([]byte, len(told))
	copy(turned, told)
	turned[f.Byte%len(told)] ^= 1 << f.Bit
	return string(turned), api.OK
}

func (f fault) may() bool {
	return api.FaultError <= f.Kind && f.Kind <= api.FaultFlip && f.At >= 0 && f.Byte >= 0 && 0 <= f.Bit && f.Bit <= 7
}

// mayAll: may they be, and be together?
func mayAll(faults []api.Fault) bool {
	if len(faults) > api.MaxFaults {
		return false
	}
	for i, f := range faults {
		if !fault(f).may() || faultOf(faults[:i], f.At).Kind != noFault {
			return false
		}
	}
	return true
}

// faultOf: the fault of a read's number; the zero one, if there is none.
func faultOf(faults []api.Fault, number int) fault {
	for _, f := range faults {
		if f.At == number {
			return fault(f)
		}
	}
	return fault{}
}
