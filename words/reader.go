package words

import "strings"

// state is where in a line a reader stands.
type state int

const (
	atStart        state = iota // of the line, which may end here, as an empty line has no words
	beforeWord                  // after a space, which another word has to follow
	inPlain                     // in a plain word
	inQuotes                    // in a quoted word
	afterBackslash              // in a pair of a quoted word
	afterQuotes                 // after a quoted word
	wrong                       // after something that no line begins with
)

// reader takes the words out of a line, byte by byte.
type reader struct {
	state state
	word  []byte // what has been read of the present word
	words []string
}

func (r *reader) read(c byte) {
	switch r.state {
	case atStart, beforeWord:
		r.state = r.beginWord(c)
	case inPlain:
		r.state = r.readPlain(c)
	case inQuotes:
		r.state = r.readQuoted(c)
	case afterBackslash:
		r.state = r.readLetter(c)
	case afterQuotes:
		r.state = r.separate(c)
	}
}

func (r *reader) beginWord(c byte) state {
	switch {
	case c == quote:
		return inQuotes
	case isPlain(c):
		return r.keep(c, inPlain)
	default:
		return wrong
	}
}

func (r *reader) readPlain(c byte) state {
	if isPlain(c) {
		return r.keep(c, inPlain)
	}
	return r.separate(c)
}

func (r *reader) readQuoted(c byte) state {
	switch {
	case c == quote:
		return afterQuotes
	case c == backslash:
		return afterBackslash
	case strings.IndexByte(unquotable, c) >= 0:
		return wrong
	default:
		return r.keep(c, inQuotes)
	}
}

func (r *reader) readLetter(c byte) state {
	i := strings.IndexByte(letters, c)
	if i < 0 {
		return wrong
	}
	return r.keep(unquotable[i], inQuotes)
}

// keep makes c the next byte of the present word, and returns the state after it.
func (r *reader) keep(c byte, after state) state {
	r.word = append(r.word, c)
	return after
}

// separate takes the byte after a word, which only a space may be.
func (r *reader) separate(c byte) state {
	if c != space {
		return wrong
	}
	r.endWord()
	return beforeWord
}

func (r *reader) endWord() {
	r.words = append(r.words, string(r.word))
	r.word = r.word[:0]
}

// end ends the line, and reports whether it is one.
func (r *reader) end() bool {
	switch r.state {
	case atStart:
		return true
	case inPlain, afterQuotes:
		r.endWord()
		return true
	default:
		return false
	}
}
