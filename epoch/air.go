// Package epoch is layer 5: session keys and control words in time, packets, and receivers whose clocks are off. See shared/doc/05-epoch.md.
package epoch

import "headend/api"

const (
	maxPeriods = 1000 // of an epoch
	lows       = 4    // values of Low
)

// CheckAir returns ErrAir unless a schedule is valid.
func CheckAir(a api.Air) api.Errno {
	if !areSpans(a) || a.Early < 0 || a.Drift < 0 || a.Delay < 0 {
		return api.ErrAir
	}
	// Each number is known to be small before it is added.
	if a.Early > a.Epoch || a.Delay > a.Epoch-a.Early {
		return api.ErrAir
	}
	if a.Drift > 3*a.Word || 2*a.Drift+a.Delay >= 3*a.Word {
		return api.ErrAir
	}
	return api.OK
}

// areSpans reports whether the spans of an epoch and of a control word are right.
func areSpans(a api.Air) bool {
	if a.Word < 1 || a.Word > api.MaxWord {
		return false
	}
	return a.Epoch >= a.Word && a.Epoch <= maxPeriods*a.Word && a.Epoch%a.Word == 0
}

func isTick(n int) bool { return n >= 0 && n <= api.MaxTick }

func isEpoch(n int) bool { return n >= 0 && n <= api.MaxTick }

func isLocal(n int) bool { return n >= -api.MaxTick && n <= 2*api.MaxTick }

// checkTick returns CheckAir's error, and ErrArg unless n is a tick.
func checkTick(a api.Air, n int) api.Errno {
	if e := CheckAir(a); e != api.OK {
		return e
	}
	if !isTick(n) {
		return api.ErrArg
	}
	return api.OK
}

// EpochOf returns the epoch of a tick.
func EpochOf(a api.Air, tick int) (int, api.Errno) {
	if e := checkTick(a, tick); e != api.OK {
		return 0, e
	}
	return tick / a.Epoch, api.OK
}

// PeriodOf returns the period of a tick.
func PeriodOf(a api.Air, tick int) (int, api.Errno) {
	if e := checkTick(a, tick); e != api.OK {
		return 0, e
	}
	return tick / a.Word, api.OK
}

// epochOfPeriod returns the epoch in which a period lies.
func epochOfPeriod(a api.Air, period int) int { return period / (a.Epoch / a.Word) }

// span is the ticks from first to last: none if last is below first.
type span struct{ first, last int }

// meets reports whether two spans have a tick in common.
func (s span) meets(t span) bool {
	return max(s.first, t.first) <= min(s.last, t.last)
}

// dueAt returns the ticks at which the headers of an epoch are due.
func dueAt(a api.Air, epoch int) span {
	return span{epoch*a.Epoch - a.Early, (epoch+1)*a.Epoch - 1}
}

// sentAt returns the ticks, from 0 on, at which a packet may have been sent that arrives at a local time.
func sentAt(a api.Air, local int) span {
	return span{max(local-a.Drift-a.Delay, 0), local + a.Drift}
}

// Due returns the epochs whose headers are due at a tick.
func Due(a api.Air, tick int) ([]int, api.Errno) {
	own, e := EpochOf(a, tick)
	if e != api.OK {
		return nil, e
	}
	due := []int{own}
	// Headers are not sent earlier than one epoch, so that no later ones are due.
	if next := own + 1; dueAt(a, next).meets(span{tick, tick}) {
		due = append(due, next)
	}
	return due, api.OK
}

// Resolve returns the period of a content packet that arrives at a local time.
func Resolve(a api.Air, local int, low uint8) (int, api.Errno) {
	if e := CheckAir(a); e != api.OK {
		return 0, e
	}
	if !isLocal(local) || low >= lows {
		return 0, api.ErrArg
	}
	sent := sentAt(a, local)
	if sent.last < sent.first {
		return 0, api.ErrTime
	}
	// These ticks are of at most four periods, so that at most one has this Low.
	for period := sent.first / a.Word; period <= sent.last/a.Word; period++ {
		if period%lows == int(low) {
			return period, api.OK
		}
	}
	return 0, api.ErrTime
}

// InTime reports whether a header packet of an epoch that arrives at a local time is in time.
func InTime(a api.Air, local, epoch int) (bool, api.Errno) {
	if e := CheckAir(a); e != api.OK {
		return false, e
	}
	if !isLocal(local) || !isEpoch(epoch) {
		return false, api.ErrArg
	}
	return dueAt(a, epoch).meets(sentAt(a, local)), api.OK
}
