package rights

import (
	"bytes"
	"slices"

	"headend/api"
)

// left returns what a crash leaves of a file, if size bytes were written.
func left(f api.File, size int) []byte {
	return slices.Clone(f.Bytes[:min(max(size, f.Safe), len(f.Bytes))])
}

// Crash returns the files that a crash leaves.
func Crash(o api.Office, shot0, shot1, log int) (api.Disk, api.Errno) {
	if e := CheckOffice(o); e != api.OK {
		return api.Disk{}, e
	}
	shots := [2][]byte{left(o.Shots[0], shot0), left(o.Shots[1], shot1)}
	return api.Disk{Shots: shots, Log: left(o.Log, log)}, api.OK
}

// Recover returns the office that is recovered from some files.
func Recover(d api.Disk) (api.Office, api.Errno) {
	if max(len(d.Shots[0]), len(d.Shots[1]), len(d.Log)) > api.MaxLog {
		return api.Office{}, api.ErrMany
	}
	last := newest(d.Shots)
	books, log := replayed(last, d.Log)
	shots := [2]api.File{safe(d.Shots[0]), safe(d.Shots[1])}
	return api.Office{Books: books, Count: last.generation, Shots: shots, Log: safe(log)}, api.OK
}

// newest returns what the snapshot with the greatest generation has, or empty books if there is none.
func newest(files [2][]byte) shot {
	last, is := shotOf(files[0])
	other, isOther := shotOf(files[1])
	if isOther && (!is || other.generation > last.generation) {
		return other
	}
	return last
}

// replayed returns books after the deals of a journal that can be carried out, and the journal of these.
func replayed(s shot, file []byte) (api.Books, []byte) {
	w, log := desk{s.books}, journal(s.generation)
	// Only the first time the file may begin with anything else.
	for bytes.HasPrefix(file, log) {
		rest := file[len(log):]
		d, e := DecodeDeal(rest[:min(dealBytes, len(rest))])
		if e != api.OK {
			break
		}
		longer := withRecord(log, d)
		if !bytes.HasPrefix(file, longer) || w.carryOut(d) != api.OK {
			break
		}
		log = longer
	}
	return w.Books, log
}
