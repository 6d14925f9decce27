package asm

import (
	"linker/api"
	"linker/name"
)

// The kinds of tokens. A token that is none stands where a fault was met.
const (
	noToken     = 0
	wordToken   = 1
	numberToken = 2
	signToken   = 3
	endToken    = 4
)

// maxDigits is how many digits a number may have.
const maxDigits = 10

// token is a token of a line and its place in the text.
type token struct {
	kind int
	at   int
	text string
	n    int // of a number: which
}

// is tells whether t is this sign.
func (t token) is(sign string) bool {
	return t.kind == signToken && t.text == sign
}

// scanner goes through a text, no further than it is asked to: what lies behind a fault is not looked at (P7).
type scanner struct {
	text string
	at   int
}

// next gives the next token of the line, or the fault that it has. At the line's end it stays there.
func (s *scanner) next() (token, api.Fault) {
	s.passBlanks()
	from := s.at
	if s.ended() {
		return token{kind: endToken, at: from}, api.Fault{}
	}
	c := s.text[from]
	if name.IsDigit(c) {
		return s.number()
	}
	if inWord(c) {
		s.passWord()
		return token{kind: wordToken, at: from, text: s.text[from:s.at]}, api.Fault{}
	}
	if isSign(c) {
		s.at = from + 1
		return token{kind: signToken, at: from, text: s.text[from:s.at]}, api.Fault{}
	}
	return token{}, api.Fault{E: api.ErrChar, At: from}
}

// number gives the number at hand, or its fault.
func (s *scanner) number() (token, api.Fault) {
	from := s.at
	n := 0
	for s.at < len(s.text) && name.IsDigit(s.text[s.at]) {
		if s.at-from == maxDigits {
			return token{}, api.Fault{E: api.ErrNumber, At: from}
		}
		n = 10*n + int(s.text[s.at]-'0')
		s.at++
	}
	if s.at < len(s.text) && inWord(s.text[s.at]) {
		return token{}, api.Fault{E: api.ErrChar, At: s.at}
	}
	return token{kind: numberToken, at: from, text: s.text[from:s.at], n: n}, api.Fault{}
}

func (s *scanner) passBlanks() {
	for s.at < len(s.text) && (s.text[s.at] == ' ' || s.text[s.at] == '\t') {
		s.at++
	}
}

func (s *scanner) passWord() {
	for s.at < len(s.text) && inWord(s.text[s.at]) {
		s.at++
	}
}

// ended tells whether the line ends here.
func (s *scanner) ended() bool {
	return s.at >= len(s.text) || s.text[s.at] == '\n' || s.text[s.at] == '#'
}

// nextLine goes to the beginning of the next line, and tells whether there is one.
func (s *scanner) nextLine() bool {
	for s.at < len(s.text) && s.text[s.at] != '\n' {
		s.at++
	}
	if s.at >= len(s.text) {
		return false
	}
	s.at++
	return true
}

// inWord tells whether a word may have c in it.
func inWord(c byte) bool {
	return name.MayHave(c) || c == '.'
}

func isSign(c byte) bool {
	return c == ',' || c == ':' || c == '(' || c == ')' || c == '+' || c == '-'
}
