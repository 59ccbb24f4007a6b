package impl

import (
	"strconv"
	"strings"
)

// Limits of tokens.
const (
	MaxTokens  = 120
	MaxName    = 12
	MaxString  = 200
	MaxInteger = 1000000000000
)

// Kinds of tokens.
const (
	TkName = iota + 1
	TkInteger
	TkString
	TkOp
	TkOpen
	TkClose
	TkLeft
	TkRight
	TkComma
	TkColon
)

// Classes of the bytes with which no token begins: inner bytes occur in names only.
const (
	classNone  = 0
	classInner = TkColon + 1
)

// maxDigits keeps the value of a digit sequence within an int64.
const maxDigits = 13

// byteClasses has the kind of the token that begins with a byte as the class of this byte.
var byteClasses = [128]uint8{
	'0': TkInteger, TkInteger, TkInteger, TkInteger, TkInteger,
	'5': TkInteger, TkInteger, TkInteger, TkInteger, TkInteger,
	'A': TkName, TkName, TkName, TkName, TkName, TkName, TkName, TkName, TkName,
	'J': TkName, TkName, TkName, TkName, TkName, TkName, TkName, TkName, TkName,
	'S': TkName, TkName, TkName, TkName, TkName, TkName, TkName, TkName,
	'a': TkName, TkName, TkName, TkName, TkName, TkName, TkName, TkName, TkName,
	'j': TkName, TkName, TkName, TkName, TkName, TkName, TkName, TkName, TkName,
	's': TkName, TkName, TkName, TkName, TkName, TkName, TkName, TkName,
	'_': classInner,
	'"': TkString, '\'': TkString,
	'$': TkOp, '*': TkOp, '+': TkOp, '-': TkOp, '.': TkOp, '/': TkOp, '=': TkOp, '@': TkOp, '|': TkOp,
	'(': TkOpen, ')': TkClose, '<': TkLeft, '>': TkRight, ',': TkComma, ':': TkColon,
}

// Token is a lexical element. Before and After state whether a blank precedes and follows it.
type Token struct {
	Kind   int64
	Num    int64
	Text   string
	Before bool
	After  bool
}

// classOf returns the class of a character; those outside of the table have none.
func classOf(r rune) uint8 {
	if r < 0 || r >= rune(len(byteClasses)) {
		return classNone
	}
	return byteClasses[r]
}

// continuesName reports whether r can follow the first letter of a name.
func continuesName(r rune) bool {
	switch classOf(r) {
	case TkName, TkInteger, classInner:
		return true
	}
	return false
}

// IsName reports whether s is a name.
func IsName(s string) bool {
	if s == "" || len(s) > MaxName || classOf(rune(s[0])) != TkName {
		return false
	}
	for _, r := range s {
		if !continuesName(r) {
			return false
		}
	}
	return true
}

// IsOperator reports whether s is an operator symbol.
func IsOperator(s string) bool {
	return len(s) == 1 && classOf(rune(s[0])) == TkOp
}

// CanQuote reports whether s can be written as a string literal.
func CanQuote(s string) bool {
	if len(s) > MaxString || hasUnprintable(s) {
		return false
	}
	return !strings.Contains(s, "'") || !strings.Contains(s, "\"")
}

func hasUnprintable(s string) bool {
	for _, r := range s {
		if !isPrintable(r) {
			return true
		}
	}
	return false
}

// QuoteString returns the literal of a string, and the empty string if it has none.
func QuoteString(s string) string {
	switch {
	case !CanQuote(s):
		return ""
	case strings.Contains(s, "'"):
		return "\"" + s + "\""
	default:
		return "'" + s + "'"
	}
}

// ValidToken reports whether t is valid.
func ValidToken(t Token) bool {
	switch t.Kind {
	case TkName:
		return t.Num == 0 && IsName(t.Text)
	case TkInteger:
		return t.Num >= 0 && t.Num <= MaxInteger && t.Text == ""
	case TkString:
		return t.Num == 0 && CanQuote(t.Text)
	case TkOp:
		return t.Num == 0 && IsOperator(t.Text)
	case TkOpen, TkClose, TkLeft, TkRight, TkComma, TkColon:
		return t.Num == 0 && t.Text == ""
	}
	return false
}

// TokenText returns the text of a token, and the empty string for an invalid one.
func TokenText(t Token) string {
	if !ValidToken(t) {
		return ""
	}
	switch t.Kind {
	case TkInteger:
		return strconv.FormatInt(t.Num, 10)
	case TkString:
		return QuoteString(t.Text)
	case TkOpen:
		return "("
	case TkClose:
		return ")"
	case TkLeft:
		return "<"
	case TkRight:
		return ">"
	case TkComma:
		return ","
	case TkColon:
		return ":"
	}
	return t.Text
}

// ScanTokens splits a text into tokens. It returns them, the number 0 and OK,
// or nothing, the byte offset of the fault and an error code.
func ScanTokens(s string) ([]Token, int64, int64) {
	if len(s) > MaxSource || hasUnprintable(s) {
		return nil, 0, ErrInvalid
	}
	var list []Token
	scan := tokenScanner{text: s}
	for scan.skipBlanks() {
		start := scan.at
		token, ok := scan.read()
		if !ok {
			return nil, int64(start), ErrSyntax
		}
		if len(list) == MaxTokens {
			return nil, int64(start), ErrFull
		}
		token.Before = isGap(s, start-1)
		token.After = isGap(s, scan.at)
		list = append(list, token)
	}
	return list, 0, OK
}

// isGap reports whether the byte at an index is a blank. Both ends of the text
// count as blanks, as the first and the last token are treated like that.
func isGap(s string, at int) bool {
	return at < 0 || at >= len(s) || s[at] == ' '
}

// tokenScanner reads the tokens of a text; at is the offset of the first byte that was not read.
type tokenScanner struct {
	text string
	at   int
}

// skipBlanks moves to the next byte that is not a blank, and reports whether there is one.
func (t *tokenScanner) skipBlanks() bool {
	for t.at < len(t.text) && t.text[t.at] == ' ' {
		t.at++
	}
	return t.at < len(t.text)
}

// read reads the token that begins at the next byte, and reports whether there is one.
func (t *tokenScanner) read() (Token, bool) {
	readKind := t.readerOf(classOf(rune(t.text[t.at])))
	return readKind()
}

// readerOf returns the method that reads the tokens of a kind.
func (t *tokenScanner) readerOf(class uint8) func() (Token, bool) {
	switch class {
	case TkName:
		return t.readName
	case TkInteger:
		return t.readInteger
	case TkString:
		return t.readString
	case TkOp:
		return t.readOperator
	case classNone, classInner:
		return t.readNothing
	}
	return t.readMark
}

func (t *tokenScanner) readName() (Token, bool) {
	name := t.takeWhile(continuesName)
	if len(name) > MaxName {
		return Token{}, false
	}
	return Token{Kind: TkName, Text: name}, true
}

func (t *tokenScanner) readInteger() (Token, bool) {
	digits := t.takeWhile(isDigit)
	if len(digits) > maxDigits {
		return Token{}, false
	}
	value := int64(0)
	for _, digit := range digits {
		value = 10*value + int64(digit-'0')
	}
	if value > MaxInteger {
		return Token{}, false
	}
	return Token{Kind: TkInteger, Num: value}, true
}

func (t *tokenScanner) readString() (Token, bool) {
	inner := t.text[t.at+1:]
	length := strings.IndexByte(inner, t.text[t.at])
	if length < 0 || length > MaxString {
		return Token{}, false
	}
	t.at += length + 2
	return Token{Kind: TkString, Text: inner[:length]}, true
}

func (t *tokenScanner) readOperator() (Token, bool) {
	t.at++
	return Token{Kind: TkOp, Text: t.text[t.at-1 : t.at]}, true
}

// readMark reads a symbol that is the only one of its kind.
func (t *tokenScanner) readMark() (Token, bool) {
	t.at++
	return Token{Kind: int64(classOf(rune(t.text[t.at-1])))}, true
}

func (t *tokenScanner) readNothing() (Token, bool) {
	return Token{}, false
}

// takeWhile reads the longest part of the text whose characters satisfy a condition.
func (t *tokenScanner) takeWhile(belongs func(rune) bool) string {
	start := t.at
	t.at = len(t.text)
	for i, r := range t.text[start:] {
		if !belongs(r) {
			t.at = start + i
			break
		}
	}
	return t.text[start:t.at]
}

func isDigit(r rune) bool {
	return classOf(r) == TkInteger
}

// PrintTokens returns a text with the given tokens, and the empty string if one is invalid.
func PrintTokens(list []Token) string {
	for _, token := range list {
		if !ValidToken(token) {
			return ""
		}
	}
	var text strings.Builder
	writeTokens(&text, list)
	return text.String()
}

func writeTokens(out textSink, list []Token) {
	for i, token := range list {
		if i > 0 && (token.Before || list[i-1].After) {
			out.WriteString(" ")
		}
		out.WriteString(TokenText(token))
	}
}

// IsInfix reports whether a token is used as a binary operator.
func IsInfix(t Token) bool {
	return t.Kind == TkOp && t.Before && t.After && ValidToken(t)
}
