package rights

import (
	"slices"

	"headend/api"
)

// The steps of a turn.
const (
	stepWrite = iota // the snapshot is written
	stepKeep         // and made safe
	stepStart        // a new journal is started
	stepDone         // and made safe
	steps
)

// safe returns a new file with some bytes, all of them safe.
func safe(b []byte) api.File { return api.File{Bytes: slices.Clone(b), Safe: len(b)} }

// Open returns a new office.
func Open() api.Office { return api.Office{Log: safe(journal(0))} }

// CheckOffice returns ErrBad unless an office is valid.
func CheckOffice(o api.Office) api.Errno {
	if Check(o.Books) != api.OK || !isCounted(o) || !isFile(o.Shots[0]) || !isFile(o.Shots[1]) || !isLog(o.Log) {
		return api.ErrBad
	}
	return api.OK
}

// isCounted reports whether the generation and the step of an office are right.
func isCounted(o api.Office) bool {
	if o.Step == stepKeep || o.Step == stepStart {
		return isGeneration(o.Count) && isGeneration(nextOf(o))
	}
	return isGeneration(o.Count) && isWithin(o.Step, 0, steps-1)
}

func isFile(f api.File) bool {
	return len(f.Bytes) <= api.MaxLog && isWithin(f.Safe, 0, len(f.Bytes))
}

func isLog(f api.File) bool {
	return isFile(f) && len(f.Bytes) >= headBytes && (len(f.Bytes)-headBytes)%recordBytes == 0
}

// nextOf returns the generation after that of an office.
func nextOf(o api.Office) int { return o.Count + 1 }

// copyOfOffice returns an office that shares no memory with an office.
func copyOfOffice(o api.Office) api.Office {
	o.Books = copyOf(o.Books)
	for _, f := range []*api.File{&o.Shots[0], &o.Shots[1], &o.Log} {
		f.Bytes = slices.Clone(f.Bytes)
	}
	return o
}

// checkIdle returns CheckOffice's error, and ErrStep if an office is within a turn.
func checkIdle(o api.Office) api.Errno {
	if e := CheckOffice(o); e != api.OK {
		return e
	}
	if o.Step != stepWrite {
		return api.ErrStep
	}
	return api.OK
}

// Do returns the office after doing a deal.
func Do(o api.Office, d api.Deal) (api.Office, api.Errno) {
	if e := checkIdle(o); e != api.OK {
		return api.Office{}, e
	}
	books, e := Apply(o.Books, d)
	if e != api.OK {
		return api.Office{}, e
	}
	if len(o.Log.Bytes)+recordBytes > api.MaxLog {
		return api.Office{}, api.ErrFull
	}
	o = copyOfOffice(o)
	o.Books, o.Log.Bytes = books, withRecord(o.Log.Bytes, d)
	return o, api.OK
}

// Sync returns the office after syncing.
func Sync(o api.Office) (api.Office, api.Errno) {
	if e := checkIdle(o); e != api.OK {
		return api.Office{}, e
	}
	o = copyOfOffice(o)
	o.Log.Safe = len(o.Log.Bytes)
	return o, api.OK
}

// Turn returns the office after the next step of a turn.
func Turn(o api.Office) (api.Office, api.Errno) {
	if e := CheckOffice(o); e != api.OK {
		return api.Office{}, e
	}
	if o.Step == stepWrite && !isGeneration(nextOf(o)) {
		return api.Office{}, api.ErrFull
	}
	o = copyOfOffice(o)
	shot := &o.Shots[nextOf(o)%2]
	switch o.Step {
	case stepWrite:
		*shot = api.File{Bytes: snapshot(o.Books, nextOf(o))}
	case stepKeep:
		shot.Safe = len(shot.Bytes)
	case stepStart:
		o.Count = nextOf(o)
		o.Log = api.File{Bytes: journal(o.Count)}
	case stepDone:
		o.Log.Safe = len(o.Log.Bytes)
	}
	o.Step = (o.Step + 1) % steps
	return o, api.OK
}
