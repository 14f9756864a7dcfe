// Package whole has the tests of what the document promises of all layers together, and of the language that they are written in.
package whole
