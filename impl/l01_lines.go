package impl

import "strings"

// Error codes.
const (
	OK = iota
	ErrInvalid
	ErrSyntax
	ErrRange
	ErrType
	ErrUndefined
	ErrFull
	ErrSteps
	ErrDivision
	ErrStack
	ErrState
	ErrNotFound
)

// Limits of source texts.
const (
	MaxSource = 4000
	MaxLines  = 120
)

var codeNames = [12]string{
	"ok", "invalid", "syntax", "range", "type", "undefined",
	"full", "steps", "division", "stack", "state", "not-found",
}

// Line is a statement of a source text with the number of the physical line on which it begins.
type Line struct {
	Number int64
	Text   string
}

// textSink receives a text piece by piece. The functions that write a text
// depend on it alone, so that they need not know how the text is collected.
type textSink interface {
	WriteString(s string) (int, error)
}

// CodeName returns the name of an error code, and the empty string for any other number.
func CodeName(code int64) string {
	if code < 0 || code >= int64(len(codeNames)) {
		return ""
	}
	return codeNames[code]
}

// SplitLines returns the physical lines of a text.
func SplitLines(s string) []string {
	if s == "" {
		return nil
	}
	return strings.Split(strings.TrimSuffix(s, "\n"), "\n")
}

// ValidSource reports whether s can be a source text.
func ValidSource(s string) bool {
	// The length comes first: a text that is too long is not searched.
	if len(s) > MaxSource {
		return false
	}
	for _, r := range s {
		if r != '\n' && !isPrintable(r) {
			return false
		}
	}
	return len(SplitLines(s)) <= MaxLines
}

// isPrintable reports whether r is a character of source texts. A byte above
// 126 appears in a range over a string as a rune above 126, whatever it is.
func isPrintable(r rune) bool {
	return r >= ' ' && r <= '~'
}

// IsBlankLine reports whether a line contains nothing but blanks.
func IsBlankLine(s string) bool {
	return strings.TrimLeft(s, " ") == ""
}

// IsComment reports whether a line is a comment.
func IsComment(s string) bool {
	return strings.HasPrefix(s, "*")
}

// IsContinuation reports whether a line continues the previous one.
func IsContinuation(s string) bool {
	return strings.HasPrefix(s, "+")
}

// SplitStatements splits a line at its semicolons outside of quotes.
func SplitStatements(s string) []string {
	var parts []string
	start := 0
scan:
	for at := 0; at < len(s); at++ {
		switch s[at] {
		case ';':
			parts = append(parts, s[start:at])
			start = at + 1
		case '\'', '"':
			length := strings.IndexByte(s[at+1:], s[at])
			if length < 0 {
				break scan
			}
			at += length + 1
		}
	}
	return append(parts, s[start:])
}

// LogicalLines returns the statements of a source text, the number 0 and OK,
// or nothing, the number of the line at fault and an error code.
func LogicalLines(s string) ([]Line, int64, int64) {
	if !ValidSource(s) {
		return nil, 0, ErrInvalid
	}
	combined, fault := combineLines(SplitLines(s))
	if fault != 0 {
		return nil, fault, ErrSyntax
	}
	var statements []Line
	for _, line := range combined {
		statements = appendStatements(statements, line)
	}
	return statements, 0, OK
}

// combineLines joins continuation lines to the lines that they continue. It
// returns the number of a continuation line that continues none, or 0.
func combineLines(physical []string) ([]Line, int64) {
	var combined []Line
	for i, text := range physical {
		if IsBlankLine(text) || IsComment(text) {
			continue
		}
		number := int64(i) + 1
		last := len(combined) - 1
		switch {
		case !IsContinuation(text):
			combined = append(combined, Line{Number: number, Text: text})
		case last < 0:
			return nil, number
		default:
			combined[last].Text += " " + text[1:]
		}
	}
	return combined, 0
}

// appendStatements appends the statements of a combined line to a list.
func appendStatements(list []Line, line Line) []Line {
	for _, part := range SplitStatements(line.Text) {
		if !IsBlankLine(part) {
			list = append(list, Line{Number: line.Number, Text: part})
		}
	}
	return list
}

// JoinLines returns a source text with the given statements.
func JoinLines(list []Line) string {
	var text strings.Builder
	writeLines(&text, list)
	return text.String()
}

func writeLines(out textSink, list []Line) {
	for _, line := range list {
		out.WriteString(line.Text)
		out.WriteString("\n")
	}
}
