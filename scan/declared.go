package scan

import (
	"strings"

	"wharf/api"
)

const (
	mostOfSpace = 256 // bytes

	spaceMark = "xmlns"    // the attribute, and the prefix of attributes, that declare
	xmlMark   = "xml"      // the prefix that nobody declares, and attributes have
	langMark  = "xml:lang" // the only attribute with a prefix that is told
)

// declared is what an element declares.
type declared struct {
	bindings []binding
}

// binding is the namespace of a prefix; "" stands for the prefix of names that have none.
type binding struct {
	prefix string
	space  string
}

func (d declared) find(prefix string) (string, bool) {
	for _, b := range d.bindings {
		if b.prefix == prefix {
			return b.space, true
		}
	}
	return "", false
}

// declare answers what these attributes, whose values are read, declare; false, if one declares what may not be.
func declare(attrs []api.Attr) (declared, bool) {
	var d declared
	for _, a := range attrs {
		prefix, declares := declaredPrefix(a.Name)
		if !declares {
			continue
		}
		if a.Value == "" || len(a.Value) > mostOfSpace || prefix == xmlMark || prefix == spaceMark {
			return declared{}, false
		}
		d.bindings = append(d.bindings, binding{prefix: strings.Clone(prefix), space: a.Value})
	}
	return d, true
}

// declaredPrefix answers the prefix whose namespace an attribute of that name declares, and whether it declares at all.
func declaredPrefix(name string) (string, bool) {
	if name == spaceMark {
		return "", true
	}
	prefix, local := parts(name)
	if prefix != spaceMark {
		return "", false
	}
	return local, true
}

// parts answers the prefix of a name, "" if it has none, and what stands behind it.
func parts(name string) (string, string) {
	prefix, local, ok := strings.Cut(name, ":")
	if !ok {
		return "", name
	}
	return prefix, local
}

func hasTwins(attrs []api.Attr) bool {
	times := map[string]int{}
	for _, a := range attrs {
		times[a.Name]++
		if times[a.Name] > 1 {
			return true
		}
	}
	return false
}

// countOthers counts the attributes that do not declare.
func countOthers(attrs []api.Attr) int {
	n := 0
	for _, a := range attrs {
		if _, declares := declaredPrefix(a.Name); !declares {
			n++
		}
	}
	return n
}
