package tests

import (
	"regexp"
	"slices"
	"strconv"
	"strings"
	"testing"

	"loop.example/formatplans/impl"
)

func wordsOf(text string) impl.Piece {
	return impl.Piece{Text: text}
}

func fieldOf(name string, conv string, subs ...impl.Sub) impl.Piece {
	return impl.Piece{Field: true, Name: name, Conv: conv, Subs: subs}
}

func subText(text string) impl.Sub {
	return impl.Sub{Text: text}
}

func subField(name string) impl.Sub {
	return impl.Sub{Field: true, Name: name}
}

func templateOf(pieces ...impl.Piece) impl.Template {
	return impl.Template{Pieces: pieces}
}

// mustTemplate returns the template of a text that has one.
func mustTemplate(t *testing.T, s string) impl.Template {
	t.Helper()
	p, ok := impl.ParseTemplate(s)
	if !ok {
		t.Fatalf("ParseTemplate(%q) fails", s)
	}
	return p
}

func samePiece(a impl.Piece, b impl.Piece) bool {
	return a.Text == b.Text && a.Field == b.Field && a.Name == b.Name && a.Conv == b.Conv && slices.Equal(a.Subs, b.Subs)
}

func sameTemplate(a impl.Template, b impl.Template) bool {
	return slices.EqualFunc(a.Pieces, b.Pieces, samePiece)
}

func cloneTemplate(t impl.Template) impl.Template {
	pieces := slices.Clone(t.Pieces)
	for i, p := range pieces {
		pieces[i].Subs = slices.Clone(p.Subs)
	}
	return impl.Template{Pieces: pieces}
}

// doubledBy puts each brace twice.
func doubledBy(text string) string {
	out := ""
	for _, b := range []byte(text) {
		out += string([]byte{b})
		if b == '{' || b == '}' {
			out += string([]byte{b})
		}
	}
	return out
}

// fieldBy writes a field.
func fieldBy(p impl.Piece) string {
	out := "{" + p.Name
	if p.Conv != "" {
		out += "!" + p.Conv
	}
	for i, sub := range p.Subs {
		if i == 0 {
			out += ":"
		}
		if sub.Field {
			out += "{" + sub.Name + "}"
		} else {
			out += sub.Text
		}
	}
	return out + "}"
}

// templateBy writes a template.
func templateBy(t impl.Template) string {
	out := ""
	for _, p := range t.Pieces {
		if p.Field {
			out += fieldBy(p)
		} else {
			out += doubledBy(p.Text)
		}
	}
	return out
}

// piecePattern has the text of a piece: that of a text, or a name, a conversion and a specification.
var piecePattern = regexp.MustCompile(`^(?:((?:[ -z|~]|\{\{|\}\})+)|\{([0-9]?|[a-z]{1,4})(?:!([sr]))?(?::((?:[ -z|~]|\{(?:[0-9]?|[a-z]{1,4})\})+))?\})`)

// subPattern has the text of a piece of a specification: that of a text, or a name.
var subPattern = regexp.MustCompile(`([ -z|~]+)|\{([^}]*)\}`)

// pieceOf returns the piece that piecePattern has found.
func pieceOf(m []string) impl.Piece {
	if m[1] != "" {
		return wordsOf(strings.NewReplacer("{{", "{", "}}", "}").Replace(m[1]))
	}
	p := fieldOf(m[2], m[3])
	for _, sub := range subPattern.FindAllStringSubmatch(m[4], -1) {
		if sub[1] != "" {
			p.Subs = append(p.Subs, subText(sub[1]))
		} else {
			p.Subs = append(p.Subs, subField(sub[2]))
		}
	}
	return p
}

// namesBy returns the names of all fields, in order.
func namesBy(t impl.Template) []string {
	names := []string{}
	for _, p := range t.Pieces {
		if p.Field {
			names = append(names, p.Name)
		}
		for _, sub := range p.Subs {
			if sub.Field {
				names = append(names, sub.Name)
			}
		}
	}
	return names
}

// isMixed reports whether there are both fields without a name and fields with a digit.
func isMixed(names []string) bool {
	nothing, digit := false, false
	for _, name := range names {
		nothing = nothing || name == ""
		digit = digit || strings.Contains("0123456789", name) && name != ""
	}
	return nothing && digit
}

// templateFrom returns what ParseTemplate is to give.
func templateFrom(s string) (impl.Template, bool) {
	t := impl.Template{}
	for rest := s; rest != ""; {
		m := piecePattern.FindStringSubmatch(rest)
		if m == nil {
			return impl.Template{}, false
		}
		t.Pieces = append(t.Pieces, pieceOf(m))
		rest = rest[len(m[0]):]
	}
	if len(s) > impl.MaxTemplate || len(t.Pieces) > impl.MaxPieces || isMixed(namesBy(t)) {
		return impl.Template{}, false
	}
	return t, true
}

// isTemplate reports whether what is written for a template is read as just that.
func isTemplate(t impl.Template) bool {
	back, ok := templateFrom(templateBy(t))
	return ok && sameTemplate(back, t)
}

// numberedBy returns a template in which the names that are nothing are numbers.
func numberedBy(t impl.Template) (impl.Template, bool) {
	numbered, next := cloneTemplate(t), 0
	number := func(name string) string {
		if name != "" {
			return name
		}
		next++
		return strconv.Itoa(next - 1)
	}
	for i, p := range numbered.Pieces {
		if p.Field {
			numbered.Pieces[i].Name = number(p.Name)
		}
		for k, sub := range p.Subs {
			if sub.Field {
				p.Subs[k].Name = number(sub.Name)
			}
		}
	}
	if next > 10 || len(templateBy(numbered)) > impl.MaxTemplate {
		return impl.Template{}, false
	}
	return numbered, true
}

// valueIn returns the value of a name that is not nothing.
func valueIn(a impl.Args, name string) (impl.Value, bool) {
	for i, v := range a.List {
		if strconv.Itoa(i) == name {
			return v, true
		}
	}
	for _, arg := range a.Named {
		if arg.Name == name {
			return arg.Value, true
		}
	}
	return impl.Value{}, false
}

// specIn returns the specification of a field whose names are told.
func specIn(p impl.Piece, a impl.Args) (impl.Spec, bool) {
	text := ""
	for _, sub := range p.Subs {
		text += sub.Text
		if sub.Field {
			v, ok := valueIn(a, sub.Name)
			if !ok {
				return impl.Spec{}, false
			}
			text += bareOf(v)
		}
	}
	return specOf(text)
}

// fieldText returns the text of a field whose names are told.
func fieldText(p impl.Piece, a impl.Args) (string, bool) {
	s, specOK := specIn(p, a)
	v, ok := valueIn(a, p.Name)
	if !ok || !specOK {
		return "", false
	}
	if p.Conv == "" {
		return valueText(s, v)
	}
	text := bareOf(v)
	if p.Conv == "r" && v.Kind == impl.VaText {
		text = quotedBy(text)
	}
	return longTextBy(s, text), suitsBy(s, impl.VaText)
}

// filledIn returns what FillTemplate is to give for a valid template and valid arguments.
func filledIn(t impl.Template, a impl.Args) (string, bool) {
	numbered, ok := numberedBy(t)
	if !ok {
		return "", false
	}
	all := ""
	for _, p := range numbered.Pieces {
		text := p.Text
		if p.Field {
			if text, ok = fieldText(p, a); !ok {
				return "", false
			}
		}
		all += text
	}
	return all, true
}

// filledSome returns what FillSome is to give for a valid template and valid arguments.
func filledSome(t impl.Template, a impl.Args) (impl.Template, bool) {
	named, some := impl.Args{Named: a.Named}, impl.Template{}
	text := ""
	flush := func() {
		if text != "" {
			some.Pieces = append(some.Pieces, wordsOf(text))
		}
		text = ""
	}
	for _, p := range t.Pieces {
		told := true
		for _, name := range namesBy(templateOf(p)) {
			_, ok := valueIn(named, name)
			told = told && ok
		}
		if !told {
			flush()
			some.Pieces = append(some.Pieces, p)
			continue
		}
		more, ok := p.Text, true
		if p.Field {
			more, ok = fieldText(p, named)
		}
		if !ok {
			return impl.Template{}, false
		}
		text += more
	}
	flush()
	return some, len(templateBy(some)) <= impl.MaxTemplate
}
