// Package row reads the words of a line from the left, and keeps the first thing that is wrong: what parse, world and shell say of words is said in one place.
package row

import (
	"repartee/api"
	"repartee/lex"
)

// Row is a line that is read. Behind the first thing that is wrong nothing more is read.
type Row struct {
	words []lex.Word
	read  int // how many words were read
	end   int // the place behind the line
	at    int // the place of what is wrong
	wrong api.Errno
}

// New begins to read a line.
func New(line string) *Row {
	words, at, e := lex.Words(line)
	return &Row{words: words, end: len(line), at: at, wrong: e}
}

// Wrong is the first thing that is wrong, and its column, from 1 on; 0 and OK, if nothing is.
func (r *Row) Wrong() (int, api.Errno) {
	if r.wrong == api.OK {
		return 0, api.OK
	}
	return r.at + 1, r.wrong
}

// Col is the column of the word that was read last.
func (r *Row) Col() int {
	if r.read == 0 {
		return 1
	}
	return r.words[r.read-1].At + 1
}

// Fail says that the word that was read last is wrong.
func (r *Row) Fail(e api.Errno) {
	r.failAt(r.Col()-1, e)
}

// failAt says that something is wrong at a place, if nothing was yet.
func (r *Row) failAt(at int, e api.Errno) {
	if r.wrong == api.OK {
		r.at, r.wrong = at, e
	}
}

// next is the next word, and whether there is one and nothing is wrong.
func (r *Row) next() (lex.Word, bool) {
	if r.read == len(r.words) {
		r.failAt(r.end, api.ErrEnd)
	}
	if r.wrong != api.OK {
		return lex.Word{}, false
	}
	r.read++
	return r.words[r.read-1], true
}

// Head is the first word, which may not be in quotes.
func (r *Row) Head() string {
	w, ok := r.next()
	if ok && w.Quoted {
		r.Fail(api.ErrWord)
		return ""
	}
	return w.Text
}

// Bare is the next word, which may not be in quotes.
func (r *Row) Bare() string {
	return r.word(false)
}

// Text is the next word, which must be in quotes.
func (r *Row) Text() string {
	return r.word(true)
}

// word is the next word, in quotes or not, as it must be.
func (r *Row) word(quoted bool) string {
	w, ok := r.next()
	if ok && w.Quoted != quoted {
		r.Fail(api.ErrForm)
		return ""
	}
	return w.Text
}

// Number is the next word, a number from least to most.
func (r *Row) Number(least, most int64) int64 {
	s := r.Bare()
	if r.wrong != api.OK {
		return 0
	}
	n, e := lex.Number(s, most)
	if e == api.OK && n < least {
		e = api.ErrRange
	}
	if e != api.OK {
		r.Fail(e)
		return 0
	}
	return n
}

// End says that no word may be left.
func (r *Row) End() {
	if r.wrong == api.OK && r.read < len(r.words) {
		r.read++
		r.Fail(api.ErrForm)
	}
}
