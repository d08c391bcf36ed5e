package rights

import (
	"bytes"
	"slices"

	"headend/api"
	"headend/cipher"
)

// How many bytes the parts of files take.
const (
	dealBytes   = 27
	markBytes   = 16
	recordBytes = dealBytes + markBytes
	headBytes   = epochBytes // of a journal: its generation
)

// digest returns the Hash of the bytes of a file, which are never too many.
func digest(parts ...[]byte) []byte {
	k, _ := cipher.Hash(slices.Concat(parts...))
	return k[:]
}

// snapshot returns the snapshot of some books that are valid.
func snapshot(b api.Books, generation int) []byte {
	books := bytesOfBooks(b)
	var w writer
	w.number(generation, epochBytes)
	w.number(len(books), amountBytes)
	return slices.Concat(w, books, digest(w, books))
}

// shot is what a snapshot has.
type shot struct {
	generation int
	books      api.Books
}

// shot reads the beginning of a snapshot.
func (r *reader) shot() shot {
	generation := r.epoch()
	r.number(amountBytes)
	return shot{generation, r.books()}
}

// shotOf returns what a file has, if it is a snapshot that may be recovered.
func shotOf(file []byte) (shot, bool) {
	s, e := read(file, (*reader).shot)
	if e != api.OK || !isGeneration(s.generation) || Check(s.books) != api.OK {
		return shot{}, false
	}
	// Its size and its digest have been read over: they are compared here.
	if !bytes.Equal(snapshot(s.books, s.generation), file) {
		return shot{}, false
	}
	return s, true
}

// isGeneration reports whether an office may have a generation.
func isGeneration(n int) bool { return isWithin(n, 0, api.MaxTick-1) }

// journal returns the journal of a generation without records.
func journal(generation int) []byte {
	var w writer
	w.number(generation, headBytes)
	return w
}

// withRecord returns a journal with the record of a deal behind it.
func withRecord(log []byte, d api.Deal) []byte {
	deal := bytesOfDeal(d)
	return slices.Concat(log, deal, digest(lastMark(log), deal))
}

// lastMark returns the mark on which the next record of a journal builds.
func lastMark(log []byte) []byte {
	if len(log) == headBytes {
		return digest(log)
	}
	return log[len(log)-markBytes:]
}
